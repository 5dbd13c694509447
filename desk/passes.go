package desk

import (
	"patina/api"
	"patina/build"
	"patina/check"
	"patina/cover"
	"patina/drops"
	"patina/moves"
	"patina/parse"
)

// giveUpOn ends a command whose source is wrong.
func giveUpOn(d api.Diag) {
	if d.Code != api.OK {
		panic(d)
	}
}

// giveUp ends a command of which a layer tells an error.
func giveUp(e api.Errno) {
	if e != api.OK {
		panic(e)
	}
}

func (d *desk) parsed() api.Tree {
	t, diag := parse.Parse(d.source)
	giveUpOn(diag)
	return t
}

func (d *desk) typed() api.Typed {
	u, diag := check.Of(d.parsed())
	giveUpOn(diag)
	return u
}

func (d *desk) built() api.Mir {
	u := d.typed()
	diag, e := cover.Check(u)
	giveUp(e)
	giveUpOn(diag)
	m, diag := build.Of(u)
	giveUpOn(diag)
	return m
}

// definite is the source's MIR as drops leave it.
func (d *desk) definite() api.Mir {
	m := d.built()
	giveUpOn(moves.Check(m))
	made, e := drops.Make(m)
	if e != api.OK {
		panic(api.Diag{Code: e, To: len(d.source)})
	}
	return made
}
