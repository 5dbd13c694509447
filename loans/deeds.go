package loans

import (
	"slices"

	"patina/api"
	"patina/flow"
)

// Kinds of deeds.
const (
	reads  = iota // a copy, a shared reference
	takes         // a move, a mut reference
	asks          // a tag
	writes        // what a statement or a call sets
	drops
	frees
	begins
	ends
	tells // what a return answers
)

// deed is what a statement or an end does with one place.
type deed struct {
	kind  int
	place api.Place
}

// deedsAt are what the statement or the end at a point does, in order.
func deedsAt(b api.MBlock, i int) []deed {
	if i == len(b.Stmts) {
		return deedsOfEnd(b.Term)
	}
	s := b.Stmts[i]
	switch s.Kind {
	case api.MDrop:
		return []deed{{drops, s.Place}}
	case api.MFree:
		return []deed{{frees, s.Place}}
	case api.MLive:
		return []deed{{begins, s.Place}}
	case api.MDead:
		return []deed{{ends, s.Place}}
	}
	return append(deedsOfValue(s.R), deed{writes, s.Place})
}

func deedsOfValue(r api.Rvalue) []deed {
	l := deedsOfOperands(nil, r.Args...)
	switch r.Kind {
	case api.RRef:
		l = append(l, deed{reads, r.Place})
	case api.RMut:
		l = append(l, deed{takes, r.Place})
	case api.RTag:
		l = append(l, deed{asks, r.Place})
	}
	return l
}

func deedsOfEnd(t api.MTerm) []deed {
	l := deedsOfOperands(nil, t.Arg)
	l = deedsOfOperands(l, t.Args...)
	switch t.Kind {
	case api.TCall:
		l = append(l, deed{writes, t.Place})
	case api.TReturn:
		l = append(l, deed{tells, api.Place{}})
	}
	return l
}

// deedsOfOperands appends what operands do; constants do nothing.
func deedsOfOperands(l []deed, operands ...api.Operand) []deed {
	for _, o := range operands {
		switch o.Kind {
		case api.OCopy:
			l = append(l, deed{reads, o.Place})
		case api.OMove:
			l = append(l, deed{takes, o.Place})
		}
	}
	return l
}

// setsWhole tells whether a deed sets the whole of a local.
func (d deed) setsWhole() bool { return d.kind == writes && len(d.place.Path) == 0 }

// kills tells whether a deed kills the loans of its local's places.
func (d deed) kills() bool { return d.setsWhole() || d.kind == begins }

// uses tells whether a deed uses its local.
func (d deed) uses() bool {
	switch d.kind {
	case reads, takes, asks, tells:
		return true
	}
	return len(d.place.Path) > 0
}

// breaks tells whether a deed invalidates a loan.
func (d deed) breaks(l api.Loan) bool {
	switch d.kind {
	case reads:
		return l.Mut && Meet(d.place, l.Place)
	case takes, drops: // what is dropped has no reference in it, so all that it leads to is its own
		return Meet(d.place, l.Place)
	case asks:
		return l.Mut && flow.Within(d.place, l.Place)
	case writes:
		return flow.Within(d.place, l.Place) || flow.Within(l.Place, d.place) && !follows(l.Place.Path[len(d.place.Path):])
	case frees: // what is behind another pointer in the block does not end with it
		return flow.Within(d.place, l.Place) || flow.Within(l.Place, d.place) && !follows(l.Place.Path[len(d.place.Path)+1:])
	case begins, ends:
		return l.Place.Local == d.place.Local && !follows(l.Place.Path)
	}
	return false
}

// follows tells whether a path follows a pointer.
func follows(path []int) bool { return slices.Contains(path, -1) }
