package opt

import (
	"patina/api"
	"patina/flow"
	"patina/store"
)

// Of the locals whose words are followed.
const (
	mostWords = 8    // one has at most so many
	mostCells = 4096 // and all of them so many
)

// value is what is known of a word.
type value struct {
	known bool
	n     int64
}

func is(n int64) value { return value{true, n} }

// cells are the words of locals to which no reference leads: what stands in them hangs on the function's own blocks alone.
type cells struct {
	*function
	first []int // of each local; -1: it is not followed
	count int
}

func (f *function) newCells() *cells {
	c := &cells{function: f}
	lent := flow.Lent(f.MFn)
	for k, l := range f.Locals {
		n := f.known.Words(l.Type)
		if lent[k] || n > mostWords || c.count+n > mostCells {
			c.first = append(c.first, -1)
			continue
		}
		c.first = append(c.first, c.count)
		c.count += n
	}
	return c
}

// at is the first cell of a place; false: it has none.
func (c *cells) at(p api.Place) (int, bool) {
	cell := c.first[p.Local]
	if cell < 0 || !isDirect(p) {
		return 0, false
	}
	t := c.Locals[p.Local].Type
	for _, step := range p.Path {
		parts, is := c.known.Fields(t)
		if !is {
			step = -2 - step
			parts, _ = c.known.Variants(t)
		}
		cell += c.known.Offset(t, step)
		t = parts[step].Type
	}
	return cell, true
}

// state is what is known of all cells somewhere.
type state []value

// join leaves what is known in both, and tells whether that is less than it was.
func (s state) join(t state) bool {
	less := false
	for k := range s {
		if s[k].known && s[k] != t[k] {
			s[k] = value{}
			less = true
		}
	}
	return less
}

// place is what is known of the words at a place.
func (c *cells) place(s state, p api.Place) []value {
	l := make([]value, c.known.Words(c.typeOf(p)))
	if cell, there := c.at(p); there {
		copy(l, s[cell:])
	}
	return l
}

// operand is what is known of an operand.
func (c *cells) operand(s state, o api.Operand) []value {
	switch o.Kind {
	case api.OCopy, api.OMove:
		return c.place(s, o.Place)
	case api.OUnit:
		return nil
	}
	return []value{is(o.Num)}
}

// rvalue is what is known of what is set; or the code with which it ends the program.
func (c *cells) rvalue(s state, r *api.Rvalue) ([]value, int) {
	var l []value
	switch r.Kind {
	case api.RPick:
		l = append(l, is(int64(r.Variant)))
		fallthrough
	case api.RUse, api.RMake:
		for _, o := range r.Args {
			l = append(l, c.operand(s, o)...)
		}
		return l, api.ExitDone // behind a short payload stands what nobody reads
	case api.RTag:
		return c.place(s, r.Place)[:1], api.ExitDone
	case api.RBin:
		return calculated(r.Op, c.operand(s, r.Args[0])[0], c.operand(s, r.Args[1])[0])
	case api.RNeg:
		return calculated("-", is(0), c.operand(s, r.Args[0])[0])
	case api.RNot:
		return calculated("!=", is(1), c.operand(s, r.Args[0])[0])
	}
	return []value{{}}, api.ExitDone // an address
}

// calculated is what a sign makes of two words, or the code with which it ends the program.
func calculated(sign string, a, b value) ([]value, int) {
	if !a.known || !b.known {
		return []value{{}}, api.ExitDone
	}
	n, code := store.Calculated(sign, a.n, b.n)
	return []value{is(n)}, code
}

// write notes what stands at a place from now on.
func (c *cells) write(s state, p api.Place, l []value) {
	if cell, there := c.at(p); there {
		copy(s[cell:], l)
	}
}
