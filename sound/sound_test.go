// Package sound holds what moves, drops and loans promise together to sources: what they take is never undefined, does what it did, and loses nothing; and what opt and isel make of it does that, too.
package sound

import (
	"bytes"
	"math/rand"
	"strings"
	"testing"

	"patina/api"
	"patina/build"
	"patina/check"
	"patina/drops"
	"patina/eval"
	"patina/isel"
	"patina/lir"
	"patina/loans"
	"patina/mir"
	"patina/mirtest"
	"patina/mirun"
	"patina/moves"
	"patina/opt"
	"patina/parse"
	"patina/sourcetest"
)

// program is a source that can be typed, and what it becomes.
type program struct {
	source string
	typed  api.Typed
	built  api.Mir // by build
	made   api.Mir // of that, by drops
}

// programOf is such a program; false: the source is not right.
func programOf(source string) (program, bool) {
	tree, d := parse.Parse(source)
	if d.Code != api.OK {
		return program{}, false
	}
	u, d := check.Of(tree)
	if d.Code != api.OK {
		return program{}, false
	}
	m, d := build.Of(u)
	if d.Code != api.OK {
		return program{}, false
	}
	made, e := drops.Make(m)
	return program{source, u, m, made}, e == api.OK
}

// isTaken tells whether nothing is wrong with its moves and its loans.
func (p program) isTaken() bool {
	return moves.Check(p.built).Code == api.OK && loans.Check(p.made).Code == api.OK
}

// wantDefinite holds what drops made to 23.2: made again it is the same; and its moves are as right as they were.
func (p program) wantDefinite(t *testing.T) {
	t.Helper()
	again, e := drops.Make(p.made)
	if e != api.OK || !mir.Same(again, p.made) || mir.Check(p.made) != api.OK {
		t.Fatalf("%v\n%s", e, p.source)
	}
	if d := moves.Check(p.made); d.Code != api.OK {
		t.Fatalf("%v\n%s", d, p.source)
	}
	for f := range p.made.Fns {
		if l, e := drops.Edges(p.made, f); e != api.OK || len(l) > 0 {
			t.Fatalf("%v %v\n%s", l, e, p.source)
		}
	}
}

// ends are how runs of a taken program ended.
type ends map[[2]int]int

// few and many are fuels: what does not end with many is taken to be without an end.
const few, many = 20000, 600000

// runs are the runs of a program's tree, of what was built, and of what drops made of that.
func (p program) runs(t *testing.T, in []byte, fuel int) (tree, built, made api.Outcome) {
	t.Helper()
	tree, e := eval.Run(p.typed, in, fuel)
	built, f := mirun.Run(p.built, in, fuel)
	made, g := mirun.Run(p.made, in, fuel)
	if e != api.OK || f != api.OK || g != api.OK {
		t.Fatalf("%v %v %v\n%s", e, f, g, p.source)
	}
	return tree, built, made
}

// wantSound holds runs of a taken program to P4, 23.3, 23.4 and 24.5, with an input.
func (p program) wantSound(t *testing.T, in []byte, count ends) {
	t.Helper()
	tree, built, made := p.runs(t, in, few)
	if tree.End == api.EndFuel || built.End == api.EndFuel || made.End == api.EndFuel {
		tree, built, made = p.runs(t, in, many)
	}
	for _, o := range []api.Outcome{built, made} {
		if tree.End == api.EndUndef || o.End != tree.End || o.Code != tree.Code || o.End == api.EndDone && !bytes.Equal(o.Out, tree.Out) {
			t.Fatalf("%v: %v %v %v\n%s", in, tree, built, made, p.source)
		}
	}
	count[[2]int{made.End, made.Code}]++
	p.wantKept(t, in, made)
	if made.End == api.EndDone && made.Code == api.ExitDone {
		if o := mirtest.Run(p.made, "main", nil, in, made.Steps); o.Left > 0 {
			t.Fatalf("%d blocks are left\n%s", o.Left, p.source)
		}
	}
}

// wantKept holds what opt and isel make of a taken program to P7, with an input, and with what the program does.
func (p program) wantKept(t *testing.T, in []byte, made api.Outcome) {
	t.Helper()
	short, e := opt.Make(p.made)
	if e != api.OK {
		t.Fatal(e, p.source)
	}
	if d := moves.Check(short); d.Code != api.OK {
		t.Fatalf("%v\n%s", d, p.source)
	}
	o, e := mirun.Run(short, in, many)
	if e != api.OK || o.End != made.End || o.Code != made.Code || made.End == api.EndDone && (o.Steps > made.Steps || !bytes.Equal(o.Out, made.Out)) {
		t.Fatalf("%v: %v, not %v\n%s", in, o, made, p.source)
	}
	if made.End != api.EndDone {
		return
	}
	for _, m := range []api.Mir{p.made, short} {
		l, e := isel.Make(m)
		o, g := lir.Run(l, in, isel.Factor*(made.Steps+1))
		if e != api.OK || g != api.OK || o.End != api.EndDone || o.Code != made.Code || !bytes.Equal(o.Out, made.Out) {
			t.Fatalf("%v: %v %v %v, not %v\n%s", in, e, g, o, made, p.source)
		}
	}
}

// inputs are some that are read.
func inputs(r *rand.Rand) [][]byte {
	return [][]byte{nil, []byte("\x00\x01\x02A")[:1+r.Intn(4)], {byte(r.Intn(4)), byte(r.Intn(256))}}
}

// P4, P7, 23.2 to 23.4, 24.5: sources that grow statement by statement, as long as they are taken.
func TestGrown(t *testing.T) {
	r := rand.New(rand.NewSource(12))
	count := ends{}
	refused := map[api.Errno]int{}
	references := 0
	for range 60 {
		maker := &sourcetest.Maker{Choose: r.Intn}
		source := maker.Grown(60, 2, func(source string) bool {
			p, right := programOf(source)
			if !right {
				return false
			}
			if d := moves.Check(p.built); d.Code != api.OK {
				refused[d.Code]++
				return false
			}
			d := loans.Check(p.made)
			refused[d.Code]++
			return d.Code == api.OK
		})
		p, _ := programOf(source)
		references += strings.Count(source, "&")
		p.wantDefinite(t)
		for _, in := range inputs(r) {
			p.wantSound(t, in, count)
		}
	}
	for _, e := range []api.Errno{api.OK, api.ErrMoved, api.ErrMoveOut, api.ErrBorrow, api.ErrGone} {
		if refused[e] < 10 {
			t.Error("seldom:", refused)
		}
	}
	if count[[2]int{api.EndDone, api.ExitDone}] < 60 || count[[2]int{api.EndDone, api.ExitPanic}] == 0 || references < 2000 {
		t.Error("seldom:", count, references)
	}
}

// P7, 23.2 to 24.5: sources that are made at once, those whose moves are right, and of these those whose loans are.
func TestMade(t *testing.T) {
	r := rand.New(rand.NewSource(13))
	count := ends{}
	for k := range 900 {
		maker := &sourcetest.Maker{Choose: r.Intn, Plain: k%10 == 0}
		p, right := programOf(maker.Source(r.Intn(3)))
		if !right || moves.Check(p.built).Code != api.OK {
			continue
		}
		p.wantDefinite(t)
		if loans.Check(p.made).Code == api.OK {
			p.wantSound(t, inputs(r)[r.Intn(3)], count)
		}
	}
	if count[[2]int{api.EndDone, api.ExitDone}] < 50 {
		t.Error("seldom:", count)
	}
}

// 24.5: what build made is never undefined, either, where nothing is wrong with its own loans and moves; nor is a source without loans.
func TestBuilt(t *testing.T) {
	r := rand.New(rand.NewSource(14))
	done := 0
	for k := range 600 {
		maker := &sourcetest.Maker{Choose: r.Intn, Plain: k%3 == 0}
		p, right := programOf(maker.Source(r.Intn(3)))
		if !right || moves.Check(p.built).Code != api.OK || loans.Check(p.built).Code != api.OK {
			if maker.Plain {
				t.Fatal(p.source)
			}
			continue
		}
		o, e := mirun.Run(p.built, []byte("A"), few)
		if e != api.OK || o.End == api.EndUndef {
			t.Fatalf("%v %v\n%s", o, e, p.source)
		}
		if o.End == api.EndDone {
			done++
		}
	}
	if done < 100 {
		t.Error("seldom:", done)
	}
}
