package loans

import (
	"slices"

	"patina/api"
	"patina/flow"
)

// setsWhole tells whether a deed sets the whole of a local.
func setsWhole(d flow.Deed) bool { return d.Kind == flow.Sets && len(d.Place.Path) == 0 }

// kills tells whether a deed kills the loans of its local's places.
func kills(d flow.Deed) bool { return setsWhole(d) || d.Kind == flow.Begins }

// uses tells whether a deed uses its local.
func uses(d flow.Deed) bool {
	switch d.Kind {
	case flow.Sets, flow.Drops, flow.Frees, flow.Begins, flow.Ends:
		return len(d.Place.Path) > 0
	}
	return true
}

// breaks tells whether a deed invalidates a loan.
func breaks(d flow.Deed, l api.Loan) bool {
	switch d.Kind {
	case flow.Copies, flow.Lends:
		return l.Mut && Meet(d.Place, l.Place)
	case flow.Moves, flow.LendsMut, flow.Drops: // what is dropped has no reference in it, so all that it leads to is its own
		return Meet(d.Place, l.Place)
	case flow.Asks:
		return l.Mut && flow.Within(d.Place, l.Place)
	case flow.Sets:
		return flow.Within(d.Place, l.Place) || flow.Within(l.Place, d.Place) && !follows(l.Place.Path[len(d.Place.Path):])
	case flow.Frees: // what is behind another pointer in the block does not end with it
		return flow.Within(d.Place, l.Place) || flow.Within(l.Place, d.Place) && !follows(l.Place.Path[len(d.Place.Path)+1:])
	case flow.Begins, flow.Ends:
		return l.Place.Local == d.Place.Local && !follows(l.Place.Path)
	}
	return false
}

// follows tells whether a path follows a pointer.
func follows(path []int) bool { return slices.Contains(path, -1) }
