package check

import (
	"slices"
	"strings"

	"patina/api"
	"patina/items"
	"patina/types"
)

func isExpr(kind int) bool {
	return kind == api.KBlock || kind >= api.KNum && kind <= api.KMatch && kind != api.KInit
}

// expr walks an expression, and notes and tells its type.
func (w *walker) expr(n int) string {
	t := w.typeOf(n)
	w.typed.Types[n] = t
	return t
}

func (w *walker) typeOf(n int) string {
	x := w.node(n)
	switch x.Kind {
	case api.KNum:
		return number
	case api.KTruth:
		return truth
	case api.KVar:
		return w.variable(n)
	case api.KCall:
		return w.call(n)
	case api.KMake:
		return w.made(n)
	case api.KPick:
		return w.pick(n)
	case api.KBin:
		return w.binary(n)
	case api.KNeg:
		w.expect(x.Kids[0], number)
		return number
	case api.KNot:
		w.expect(x.Kids[0], truth)
		return truth
	case api.KGet:
		return w.get(n)
	case api.KStar:
		return w.star(n)
	case api.KBorrow:
		return w.borrow(n)
	case api.KNew:
		return w.boxed(n)
	case api.KIf:
		return w.branch(n)
	case api.KMatch:
		return w.match(n)
	case api.KBlock:
		return w.block(n)
	}
	return unit // KNil
}

// call walks the arguments of a call that there is.
func (w *walker) call(n int) string {
	x := w.node(n)
	params, result, there := w.callee(x.Name)
	w.must(there && len(params) == len(x.Kids), api.ErrCall, n)
	for k, kid := range x.Kids {
		w.expect(kid, params[k].Type)
	}
	return result
}

// callee are the parameters and the result of what a name calls.
func (w *walker) callee(name string) ([]api.Field, string, bool) {
	switch name {
	case "print":
		return []api.Field{{Type: number}}, unit, true
	case "read":
		return nil, number, true
	case "panic":
		return nil, never, true
	}
	k, there := items.Fn(w.typed.Items, name)
	if !there {
		return nil, "", false
	}
	f := w.typed.Items.Fns[k]
	return f.Params, f.Ret, true
}

// made walks the fields of a struct that is made.
func (w *walker) made(n int) string {
	x := w.node(n)
	s, there := items.Struct(w.typed.Items, x.Name)
	w.must(there, api.ErrField, n)
	given := make([]bool, len(s.Fields))
	for _, kid := range x.Kids {
		init := w.node(kid)
		k, want, there := items.Field(w.typed.Items, x.Name, init.Name)
		w.must(there && !given[k], api.ErrField, kid)
		given[k] = true
		w.expect(init.Kids[0], want)
	}
	w.must(!slices.Contains(given, false), api.ErrField, n)
	return x.Name
}

// pick walks the payload of a variant that is made.
func (w *walker) pick(n int) string {
	x := w.node(n)
	enum, payload, there := w.variant(x)
	w.must(there, api.ErrField, n)
	for _, kid := range x.Kids {
		w.expect(kid, payload)
	}
	return enum
}

// variant is the enum that a node names a variant of, and that one's payload; false: there is none, or it has a payload and the node has no kid, or the other way round.
func (w *walker) variant(x api.Node) (enum, payload string, there bool) {
	e, v, there := items.Variant(w.typed.Items, x.Name)
	if !there {
		return "", "", false
	}
	of := w.typed.Items.Enums[e]
	payload = of.Variants[v].Type
	return of.Name, payload, (payload != "") == (len(x.Kids) > 0)
}

// binary walks both sides of a sign, the right one being of the left one's type.
func (w *walker) binary(n int) string {
	x := w.node(n)
	left, right, told := x.Kids[0], x.Kids[1], truth
	switch x.Name {
	case "+", "-", "*", "/", "%":
		told = number
		fallthrough
	case "<", "<=", ">", ">=":
		w.expect(left, number)
	case "&&", "||":
		w.expect(left, truth)
	default: // == and !=
		t := w.operand(left)
		w.must(t == number || t == truth, api.ErrType, left)
	}
	w.expect(right, w.typed.Types[left])
	return told
}

// branch walks an if.
func (w *walker) branch(n int) string {
	kids := w.node(n).Kids
	w.expect(kids[0], truth)
	told := w.expr(kids[1])
	if len(kids) == 2 {
		w.fit(kids[1], unit)
		return unit
	}
	other := w.expr(kids[2])
	if told == never {
		return other
	}
	w.fit(kids[2], told)
	return told
}

// match walks a match's subject and all its arms; then it looks at the arms' types.
func (w *walker) match(n int) string {
	kids := w.node(n).Kids
	subject := w.operand(kids[0])
	for _, arm := range kids[1:] {
		parts := w.node(arm).Kids
		w.scope(func() {
			w.pattern(parts[0], subject)
			w.expr(parts[1])
		})
	}
	told := never
	for _, arm := range kids[1:] {
		value := w.node(arm).Kids[1]
		if told == never {
			told = w.typed.Types[value]
		}
		w.fit(value, told)
	}
	return told
}

// boxed walks Boxes that are made right within one another. Their types' texts lie in one another, too: each by itself, they would take the square of the room.
func (w *walker) boxed(n int) string {
	nest := []int{n}
	within := w.node(n).Kids[0]
	for w.node(within).Kind == api.KNew {
		nest = append(nest, within)
		within = w.node(within).Kids[0]
	}
	t := w.operand(within)
	w.must(!hasReference(t), api.ErrInner, nest[len(nest)-1]) // the others stand about a Box
	text := strings.Repeat("Box<", len(nest)) + t + strings.Repeat(">", len(nest))
	for k, box := range nest {
		w.typed.Types[box] = text[k*len("Box<") : len(text)-k]
	}
	return text
}

// hasReference tells of a type that is right whether there is a reference in it: that is at its beginning, or nowhere.
func hasReference(t string) bool {
	ref, _ := types.Ref(t)
	return ref
}
