package check

import "patina/api"

// block walks a block's kids, and tells what comes of its last one.
func (w *walker) block(n int) string {
	x := w.node(n)
	w.scope(func() {
		for _, kid := range x.Kids {
			w.part(kid)
		}
	})
	if len(x.Kids) == 0 {
		return unit
	}
	last := x.Kids[len(x.Kids)-1]
	if x.Num == 1 {
		return w.typed.Types[last]
	}
	switch of := w.node(last); of.Kind {
	case api.KDo:
		if w.typed.Types[of.Kids[0]] != never {
			break
		}
		fallthrough
	case api.KReturn, api.KBreak, api.KNext:
		return never
	}
	return unit
}

// part walks a statement, or the expression that is a block's last kid.
func (w *walker) part(n int) {
	x := w.node(n)
	switch x.Kind {
	case api.KLet:
		w.let(n)
	case api.KDo:
		w.expr(x.Kids[0])
	case api.KSet:
		w.set(n)
	case api.KWhile:
		w.while(n)
	case api.KReturn:
		w.leave(n)
	case api.KBreak, api.KNext:
		w.must(w.loops > 0, api.ErrLoop, n)
	default:
		w.expr(n)
	}
}

func (w *walker) let(n int) {
	x := w.node(n)
	value := x.Kids[len(x.Kids)-1]
	if len(x.Kids) == 1 {
		w.operand(value)
	} else {
		w.expect(value, w.written(x.Kids[0]))
	}
	w.declare(n, api.Local{Name: x.Name, Type: w.typed.Types[value], Mut: x.Num == 1})
}

func (w *walker) set(n int) {
	kids := w.node(n).Kids
	place := kids[0]
	t := w.operand(place)
	w.must(isPlace(w.node(place).Kind), api.ErrPlace, place)
	w.expect(kids[1], t)
	w.must(changeable(w.typed, w.locals, place), api.ErrMut, place)
}

func (w *walker) while(n int) {
	kids := w.node(n).Kids
	w.expect(kids[0], truth)
	w.loops++ // the condition is not in the loop's block
	w.expr(kids[1])
	w.loops--
	w.fit(kids[1], unit)
}

// leave walks a return.
func (w *walker) leave(n int) {
	kids := w.node(n).Kids
	if len(kids) == 0 {
		w.must(w.result == unit, api.ErrType, n)
		return
	}
	w.expr(kids[0])
	w.fit(kids[0], w.result)
}
