package flow

import "patina/api"

// Kinds of deeds.
const (
	Reads = iota // a copy, a reference, a tag
	Takes        // a move
	Sets         // what a statement or a call sets
	Loses        // what is dropped, freed, begins, ends
	Tells        // what a return answers
)

// Deed is what a statement or an end does with one place.
type Deed struct {
	Kind  int
	Place api.Place
}

// DeedsAt are what the statement or the end at a point does, in order.
func DeedsAt(b api.MBlock, i int) []Deed {
	if i == len(b.Stmts) {
		return deedsOfEnd(b.Term)
	}
	s := b.Stmts[i]
	if s.Kind != api.MSet {
		return []Deed{{Loses, s.Place}}
	}
	l := deedsOfOperands(nil, s.R.Args...)
	switch s.R.Kind {
	case api.RRef, api.RMut, api.RTag:
		l = append(l, Deed{Reads, s.R.Place})
	}
	return append(l, Deed{Sets, s.Place})
}

func deedsOfEnd(t api.MTerm) []Deed {
	l := deedsOfOperands(nil, t.Arg)
	l = deedsOfOperands(l, t.Args...)
	switch t.Kind {
	case api.TCall:
		l = append(l, Deed{Sets, t.Place})
	case api.TReturn:
		l = append(l, Deed{Tells, api.Place{}})
	}
	return l
}

// deedsOfOperands appends what operands do; constants do nothing.
func deedsOfOperands(l []Deed, operands ...api.Operand) []Deed {
	for _, o := range operands {
		switch o.Kind {
		case api.OCopy:
			l = append(l, Deed{Reads, o.Place})
		case api.OMove:
			l = append(l, Deed{Takes, o.Place})
		}
	}
	return l
}
