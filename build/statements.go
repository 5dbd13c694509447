package build

import "patina/api"

// function makes all of a function: a scope with the parameters, and its body.
func (b *builder) function(n int) {
	x := b.node(n)
	for _, kid := range x.Kids[:x.Num] {
		b.open = append(b.open, b.typed.Vars[kid]+1)
	}
	first := b.newBlock()
	b.comeTo(first)
	b.goOn(first)
	b.bring(x.Kids[len(x.Kids)-1], whole(0))
	b.endScope(0, b.last(n))
	b.end(api.MTerm{Kind: api.TReturn}, b.last(n))
}

// statement makes a statement, unless nothing leads to it.
func (b *builder) statement(n int) {
	if b.at == nowhere {
		return
	}
	x := b.node(n)
	switch x.Kind {
	case api.KLet:
		b.bring(x.Kids[len(x.Kids)-1], b.begin(n))
	case api.KDo:
		p := b.brought(x.Kids[0])
		b.drop(p, b.typeOf(x.Kids[0]), b.span(n))
	case api.KSet:
		b.assign(n)
	case api.KWhile:
		b.while(x)
	case api.KReturn:
		b.giveBack(n)
	case api.KBreak, api.KNext:
		b.leaveRound(n)
	}
}

func (b *builder) assign(n int) {
	kids := b.node(n).Kids
	t := b.typeOf(kids[1])
	v := b.brought(kids[1])
	p := b.place(kids[0])
	b.drop(p, t, b.span(n))
	b.set(p, used(b.use(v, t)), b.span(n))
}

func (b *builder) while(x *api.Node) {
	head, body, behind := b.newBlock(), b.newBlock(), b.newBlock()
	b.goTo(head)
	b.goOn(head)
	condition := x.Kids[0]
	b.end(api.MTerm{Kind: api.TIf, Arg: b.operand(condition), To: []int{body, behind}}, b.span(condition))
	b.goOn(body)
	b.loops = append(b.loops, loop{head, behind, len(b.open)})
	b.brought(x.Kids[1])
	b.loops = b.loops[:len(b.loops)-1]
	b.goTo(head)
	b.goOn(behind)
}

// giveBack makes a return.
func (b *builder) giveBack(n int) {
	x := b.node(n)
	if len(x.Kids) == 0 {
		b.setUnit(whole(0), b.span(n))
	} else {
		b.bring(x.Kids[0], whole(0))
	}
	b.leave(0, b.span(n))
	b.end(api.MTerm{Kind: api.TReturn}, b.span(n))
}

// leaveRound makes a break or a continue.
func (b *builder) leaveRound(n int) {
	l := b.loops[len(b.loops)-1]
	to := l.behind
	if b.node(n).Kind == api.KNext {
		to = l.head
	}
	b.leave(l.open, b.span(n))
	b.goTo(to)
}
