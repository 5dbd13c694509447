package flow

import (
	"slices"

	"patina/api"
)

// Kinds of deeds.
const (
	Copies = iota
	Moves
	Lends    // a reference
	LendsMut // a mut reference
	Asks     // a tag
	Sets     // what a statement or a call sets
	Drops
	Frees
	Begins
	Ends
	Tells // what a return answers
)

// Deed is what a statement or an end does with one place.
type Deed struct {
	Kind  int
	Place api.Place
}

// DeedsAt are what the statement or the end at a point does, in order.
func DeedsAt(b api.MBlock, i int) []Deed {
	if i == len(b.Stmts) {
		return deedsOfEnd(b.Term)
	}
	s := b.Stmts[i]
	switch s.Kind {
	case api.MDrop:
		return []Deed{{Drops, s.Place}}
	case api.MFree:
		return []Deed{{Frees, s.Place}}
	case api.MLive:
		return []Deed{{Begins, s.Place}}
	case api.MDead:
		return []Deed{{Ends, s.Place}}
	}
	return append(deedsOfValue(s.R), Deed{Sets, s.Place})
}

func deedsOfValue(r api.Rvalue) []Deed {
	l := DeedsOf(r.Args...)
	switch r.Kind {
	case api.RRef:
		l = append(l, Deed{Lends, r.Place})
	case api.RMut:
		l = append(l, Deed{LendsMut, r.Place})
	case api.RTag:
		l = append(l, Deed{Asks, r.Place})
	}
	return l
}

func deedsOfEnd(t api.MTerm) []Deed {
	l := append(DeedsOf(t.Arg), DeedsOf(t.Args...)...)
	switch t.Kind {
	case api.TCall:
		l = append(l, Deed{Sets, t.Place})
	case api.TReturn:
		l = append(l, Deed{Tells, api.Place{}})
	}
	return l
}

// DeedsOf are what operands do; constants do nothing.
func DeedsOf(operands ...api.Operand) []Deed {
	var l []Deed
	for _, o := range operands {
		switch o.Kind {
		case api.OCopy:
			l = append(l, Deed{Copies, o.Place})
		case api.OMove:
			l = append(l, Deed{Moves, o.Place})
		}
	}
	return l
}

// Lent tells of each local of a function whether there may be references to it, or to a part of it.
func Lent(f api.MFn) []bool {
	l := make([]bool, len(f.Locals))
	for _, b := range f.Blocks {
		for _, s := range b.Stmts {
			if (s.R.Kind == api.RRef || s.R.Kind == api.RMut) && !slices.Contains(s.R.Place.Path, -1) {
				l[s.R.Place.Local] = true
			}
		}
	}
	return l
}
