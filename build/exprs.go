package build

import (
	"patina/api"
	"patina/lookup"
)

// brought is a new temporary with the value of an expression.
func (b *builder) brought(n int) api.Place {
	p := b.temporary(b.typeOf(n))
	b.bring(n, p)
	return p
}

// use is a place of a type as an operand.
func (b *builder) use(p api.Place, t string) api.Operand {
	if b.types.Copied(t) {
		return api.Operand{Kind: api.OCopy, Place: p}
	}
	return api.Operand{Kind: api.OMove, Place: p}
}

func used(o api.Operand) api.Rvalue { return made(api.RUse, o) }

func made(kind int, args ...api.Operand) api.Rvalue { return api.Rvalue{Kind: kind, Args: args} }

func truth(holds bool) api.Operand {
	if holds {
		return api.Operand{Kind: api.OTruth, Num: 1}
	}
	return api.Operand{Kind: api.OTruth}
}

// constant is a node as an operand, if it is a constant.
func constant(x *api.Node) (api.Operand, bool) {
	switch x.Kind {
	case api.KNum:
		return api.Operand{Kind: api.ONum, Num: x.Num}, true
	case api.KTruth:
		return truth(x.Num == 1), true
	case api.KNil:
		return api.Operand{Kind: api.OUnit}, true
	}
	return api.Operand{}, false
}

// operand is an expression as an operand.
func (b *builder) operand(n int) api.Operand {
	if o, is := constant(b.node(n)); is {
		return o
	}
	return b.use(b.brought(n), b.typeOf(n))
}

// operands are expressions as operands, one behind the other.
func (b *builder) operands(nodes []int) []api.Operand {
	var l []api.Operand
	for _, n := range nodes {
		l = append(l, b.operand(n))
	}
	return l
}

// bring brings an expression into a place.
func (b *builder) bring(n int, p api.Place) {
	x := b.node(n)
	if o, is := constant(x); is {
		b.set(p, used(o), b.span(n))
		return
	}
	switch x.Kind {
	case api.KVar, api.KGet, api.KStar:
		b.set(p, used(b.use(b.place(n), b.typeOf(n))), b.span(n))
	case api.KCall:
		b.call(n, p)
	case api.KIf:
		b.branch(x, p)
	case api.KMatch:
		b.match(n, p)
	case api.KBlock:
		b.block(n, p)
	case api.KBin:
		if x.Name == "&&" || x.Name == "||" {
			b.either(n, p)
			return
		}
		fallthrough
	default:
		b.set(p, b.rvalue(x), b.span(n))
	}
}

// rvalue is an expression that one statement tells once its operands are there.
func (b *builder) rvalue(x *api.Node) api.Rvalue {
	kind := api.RNeg
	switch x.Kind {
	case api.KBin:
		r := made(api.RBin, b.operands(x.Kids)...)
		r.Op = x.Name
		return r
	case api.KMake:
		return b.structure(x)
	case api.KPick:
		r := made(api.RPick, b.operands(x.Kids)...)
		r.Name, r.Variant = b.variant(x.Name)
		return r
	case api.KBorrow:
		return lent(b.place(x.Kids[0]), x.Num == 1)
	case api.KNew:
		kind = api.RBox
	case api.KNot:
		kind = api.RNot
	}
	return made(kind, b.operands(x.Kids)...)
}

// lent is a reference to a place.
func lent(p api.Place, mut bool) api.Rvalue {
	if mut {
		return api.Rvalue{Kind: api.RMut, Place: p}
	}
	return api.Rvalue{Kind: api.RRef, Place: p}
}

// structure is a struct's value: its operands come in the order of the source, and stand in that of the fields.
func (b *builder) structure(x *api.Node) api.Rvalue {
	r := made(api.RMake, make([]api.Operand, len(x.Kids))...)
	r.Name = x.Name
	for _, kid := range x.Kids {
		init := b.node(kid)
		r.Args[b.fieldNumber(x.Name, init.Name)] = b.operand(init.Kids[0])
	}
	return r
}

func (b *builder) call(n int, p api.Place) {
	x := b.node(n)
	args := b.operands(x.Kids)
	if x.Name == "panic" {
		b.end(api.MTerm{Kind: api.TPanic, Code: api.ExitPanic}, b.span(n))
		return
	}
	next := b.newBlock()
	b.end(api.MTerm{Kind: api.TCall, Name: x.Name, Args: args, Place: p, To: []int{next}}, b.span(n))
	b.goOn(next)
}

// fork goes on by a condition, one way or the other, to one block.
func (b *builder) fork(condition int, yes, no func()) {
	onYes, onNo, join := b.newBlock(), b.newBlock(), b.newBlock()
	b.end(api.MTerm{Kind: api.TIf, Arg: b.operand(condition), To: []int{onYes, onNo}}, b.span(condition))
	b.goOn(onYes)
	yes()
	b.goTo(join)
	b.goOn(onNo)
	no()
	b.goTo(join)
	b.goOn(join)
}

// either brings && or || into a place.
func (b *builder) either(n int, p api.Place) {
	x := b.node(n)
	right := func() { b.bring(x.Kids[1], p) }
	told := func() { b.set(p, used(truth(x.Name == "||")), b.span(n)) }
	if x.Name == "&&" {
		b.fork(x.Kids[0], right, told)
	} else {
		b.fork(x.Kids[0], told, right)
	}
}

func (b *builder) branch(x *api.Node, p api.Place) {
	b.fork(x.Kids[0], func() { b.bring(x.Kids[1], p) }, func() {
		if len(x.Kids) > 2 {
			b.bring(x.Kids[2], p)
		} else {
			b.setUnit(p, span{})
		}
	})
}

func (b *builder) setUnit(p api.Place, at span) {
	b.set(p, used(api.Operand{Kind: api.OUnit}), at)
}

// block brings a block into a place, in a scope of its own.
func (b *builder) block(n int, p api.Place) {
	x := b.node(n)
	open := len(b.open)
	statements := len(x.Kids) - int(x.Num)
	for _, kid := range x.Kids[:statements] {
		b.statement(kid)
	}
	for _, kid := range x.Kids[statements:] {
		b.bring(kid, p)
	}
	if x.Num == 0 && b.typed.Types[n] == lookup.Unit {
		b.setUnit(p, b.span(n))
	}
	b.endScope(open, b.last(n))
}
