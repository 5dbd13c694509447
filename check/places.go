package check

import (
	"patina/api"
	"patina/items"
	"patina/types"
)

func isPlace(kind int) bool { return kind == api.KVar || kind == api.KGet || kind == api.KStar }

// base walks what a KGet or a KStar stands on.
func (w *walker) base(n int) string {
	t := w.operand(n)
	w.must(isPlace(w.node(n).Kind) || hasReference(t), api.ErrPlace, n)
	return t
}

func (w *walker) get(n int) string {
	x := w.node(n)
	of := Follow(w.base(x.Kids[0]))
	_, t, there := items.Field(w.typed.Items, of, x.Name)
	w.must(there, api.ErrField, n)
	return t
}

func (w *walker) star(n int) string {
	t, points := types.Inner(w.base(w.node(n).Kids[0]))
	w.must(points, api.ErrDeref, n)
	return t
}

func (w *walker) borrow(n int) string {
	x := w.node(n)
	lent := x.Kids[0]
	t := w.operand(lent)
	w.must(isPlace(w.node(lent).Kind), api.ErrPlace, lent)
	w.must(!hasReference(t), api.ErrInner, n)
	if x.Num == 0 {
		return "&" + t
	}
	w.must(changeable(w.typed, w.locals, lent), api.ErrMut, lent)
	return "&mut " + t
}

// changeable tells of a place in a function with these variables whether it may be changed. The first reference on the way down to a variable settles it; what lies between is fields and Boxes, which are as what they stand in.
func changeable(x *api.Typed, locals []api.Local, n int) bool {
	for {
		of := x.Tree.Nodes[n]
		if of.Kind == api.KVar {
			return locals[x.Vars[n]].Mut
		}
		n = of.Kids[0]
		if ref, mut := types.Ref(x.Types[n]); ref {
			return mut
		}
	}
}
