package desk

import (
	"strings"

	"patina/api"
	"patina/driver"
	"patina/eval"
	"patina/items"
	"patina/lex"
	"patina/loans"
	"patina/mir"
	"patina/moves"
	"patina/tree"
)

// desk has a source and an input.
type desk struct {
	source string
	in     []byte
}

// play does commands, and is what they tell, as far as there is room.
func (d *desk) play(commands []command) string {
	var s strings.Builder
	for k := range commands {
		s.WriteString(d.tell(&commands[k]) + "\n")
		if s.Len() > MaxTranscript {
			s.WriteString("full\n")
			break
		}
	}
	return s.String()
}

// tell does a command: the line that it tells, also where it gives up.
func (d *desk) tell(c *command) (line string) {
	defer func() {
		switch why := recover().(type) {
		case nil:
		case api.Diag:
			line = d.wrong(why)
		case api.Errno:
			line = failure(why)
		default:
			panic(why)
		}
	}()
	return c.do(d, c)
}

func (d *desk) takeSource(c *command) string {
	var s strings.Builder
	for _, text := range c.source {
		s.WriteString(text + "\n")
	}
	d.source = s.String()
	return "ok"
}

func (d *desk) takeInput(c *command) string {
	var in []byte
	for _, n := range c.numbers {
		if n > 255 {
			giveUp(api.ErrArg)
		}
		in = append(in, byte(n))
	}
	d.in = in
	return "ok"
}

func (d *desk) tokens(*command) string {
	l, diag := lex.Tokens(d.source)
	giveUpOn(diag)
	return told("tokens", len(l))
}

func (d *desk) print(*command) string {
	s, e := tree.Print(d.parsed())
	giveUp(e)
	return s
}

func (d *desk) items(*command) string {
	it := d.typed().Items
	l := []string{"items"}
	for _, s := range it.Structs {
		l = append(l, s.Name)
	}
	for _, e := range it.Enums {
		l = append(l, e.Name)
	}
	for _, f := range it.Fns {
		l = append(l, f.Name)
	}
	return strings.Join(l, " ")
}

func (d *desk) types(*command) string {
	u := d.typed()
	nodes, variables := 0, 0
	for _, s := range u.Types {
		if s != "" {
			nodes++
		}
	}
	for _, l := range u.Locals {
		variables += len(l)
	}
	return told("types", nodes, variables)
}

func (d *desk) check(*command) string {
	_, diag := driver.Front(d.source)
	giveUpOn(diag)
	return "fine"
}

func (d *desk) mir(c *command) string {
	m := d.built()
	s, e := mir.Text(m, functionOf(m.Items, c.name))
	giveUp(e)
	return strings.Join(linesOf(s), " ; ")
}

func (d *desk) moves(c *command) string {
	m := d.built()
	giveUpOn(moves.Check(m))
	f := functionOf(m.Items, c.name)
	last := len(m.Fns[f].Blocks) - 1
	gone, e := moves.Maybe(m, f, last, len(m.Fns[f].Blocks[last].Stmts))
	giveUp(e)
	return told("moves", len(gone))
}

func (d *desk) loans(c *command) string {
	m := d.definite()
	x, e := loans.Facts(m, functionOf(m.Items, c.name))
	giveUp(e)
	return told("loans", len(x.Issued), len(x.Edges), len(x.Subsets), len(x.Killed), len(x.Live), len(x.Against))
}

func (d *desk) eval(c *command) string {
	o, diag := driver.Source(d.source, d.in, int(c.numbers[0]))
	giveUpOn(diag)
	return told("eval "+ending(o), o.Steps) + printed(o)
}

func (d *desk) call(c *command) string {
	u := d.typed()
	n, o, e := eval.Call(u, functionOf(u.Items, c.name), c.numbers[1:], nil, int(c.numbers[0]))
	giveUp(e)
	return told("call "+ending(o), int(n)) + printed(o)
}

func (d *desk) image(c *command) string {
	done, same, diag := Agrees(d.source, d.in, int(c.numbers[0]))
	giveUpOn(diag)
	switch {
	case !done:
		return "image fuel"
	case !same:
		return "image parts"
	}
	return "image agrees"
}

func (d *desk) place(c *command) string {
	line, column, e := lex.Place(d.source, int(c.numbers[0]))
	giveUp(e)
	return told("place", line, column)
}

// functionOf is a function's number.
func functionOf(it api.Items, name string) int {
	k, there := items.Fn(it, name)
	if !there {
		giveUp(api.ErrNone)
	}
	return k
}
