package moves

import "patina/api"

// Kinds of deeds.
const (
	reads = iota // a copy, a reference, a tag
	takes        // a move
	sets         // what a statement or a call sets
	loses        // what is dropped, freed, begins, ends
	tells        // what a return answers
)

// deed is what a statement or an end does with one place.
type deed struct {
	kind  int
	place api.Place
}

// deedsAt are what the statement or the end at a point does, in order.
func deedsAt(b api.MBlock, i int) []deed {
	if i == len(b.Stmts) {
		return deedsOfEnd(b.Term)
	}
	s := b.Stmts[i]
	if s.Kind != api.MSet {
		return []deed{{loses, s.Place}}
	}
	l := deedsOfOperands(nil, s.R.Args...)
	switch s.R.Kind {
	case api.RRef, api.RMut, api.RTag:
		l = append(l, deed{reads, s.R.Place})
	}
	return append(l, deed{sets, s.Place})
}

func deedsOfEnd(t api.MTerm) []deed {
	l := deedsOfOperands(nil, t.Arg)
	l = deedsOfOperands(l, t.Args...)
	switch t.Kind {
	case api.TCall:
		l = append(l, deed{sets, t.Place})
	case api.TReturn:
		l = append(l, deed{tells, api.Place{}})
	}
	return l
}

// deedsOfOperands appends what operands do; constants do nothing.
func deedsOfOperands(l []deed, operands ...api.Operand) []deed {
	for _, o := range operands {
		switch o.Kind {
		case api.OCopy:
			l = append(l, deed{reads, o.Place})
		case api.OMove:
			l = append(l, deed{takes, o.Place})
		}
	}
	return l
}
