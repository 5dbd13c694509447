package check

import (
	"patina/api"
	"patina/types"
)

// pattern walks a pattern that is held against a type.
func (w *walker) pattern(n int, against string) {
	x := w.node(n)
	w.typed.Types[n] = against
	sign, held := heldBy(against)
	switch x.Kind {
	case api.KPVar:
		w.declare(n, api.Local{Name: x.Name, Type: against})
	case api.KPNum:
		w.must(held == number, api.ErrPattern, n)
	case api.KPTruth:
		w.must(held == truth, api.ErrPattern, n)
	case api.KPPick:
		enum, payload, there := w.variant(x)
		w.must(there && enum == held, api.ErrPattern, n)
		for _, kid := range x.Kids {
			w.pattern(kid, sign+payload)
		}
	}
}

// heldBy is what a pattern's type holds, with the reference's sign ahead of it, if it is one.
func heldBy(t string) (sign, held string) {
	if !hasReference(t) {
		return "", t
	}
	held, _ = types.Inner(t)
	return t[:len(t)-len(held)], held
}
