package build

import (
	"patina/api"
	"patina/lookup"
	"patina/types"
)

// subject is what a match's patterns are held against.
type subject struct {
	place api.Place
	held  api.Place // where what it holds is: behind it, if it is a reference
	t     string
	ref   bool
	mut   bool
}

func (b *builder) match(n int, p api.Place) {
	x := b.node(n)
	open := len(b.open)
	s := b.subject(x.Kids[0])
	join := b.newBlock()
	for _, arm := range x.Kids[1:] {
		b.arm(arm, s, p, join)
	}
	b.end(api.MTerm{Kind: api.TPanic, Code: api.ExitPanic}, span{})
	b.goOn(join)
	b.endScope(open, b.last(n))
}

// subject is a match's subject: a value is held by a temporary, which the match's own scope ends.
func (b *builder) subject(n int) subject {
	s := subject{t: b.typeOf(n)}
	s.place = b.base(n)
	if !isPlace(b.node(n).Kind) {
		b.open = append(b.open, s.place.Local)
	}
	s.held = s.place
	if s.ref, s.mut = types.Ref(s.t); s.ref {
		s.held = behind(s.place, -1)
	}
	return s
}

// arm brings an arm into a place, if its pattern fits, and goes on to a block; the block at hand is then where it does not.
func (b *builder) arm(n int, s subject, p api.Place, join int) {
	kids := b.node(n).Kids
	open := len(b.open)
	next := b.newBlock()
	b.test(kids[0], s.held, next)
	b.bind(kids[0], s)
	b.bring(kids[1], p)
	b.endScope(open, b.last(n))
	b.goTo(join)
	b.goOn(next)
}

// test goes on to another block, unless a pattern fits what is at a place.
func (b *builder) test(n int, q api.Place, fails int) {
	x := b.node(n)
	if x.Kind == api.KPAny || x.Kind == api.KPVar || b.at == nowhere {
		return
	}
	fits := b.newBlock()
	b.end(b.choice(n, q, fits, fails), b.span(n))
	b.goOn(fits)
	for _, kid := range x.Kids {
		b.test(kid, b.payload(q, x), fails)
	}
}

// choice is the end by which a block goes on to one of two others, by whether a pattern fits by itself.
func (b *builder) choice(n int, q api.Place, fits, fails int) api.MTerm {
	x := b.node(n)
	t := api.MTerm{Kind: api.TSwitch, Values: []int64{x.Num}, To: []int{fits, fails}}
	switch x.Kind {
	case api.KPPick:
		_, v := b.variant(x.Name)
		t.Values = []int64{int64(v)}
		t.Arg = b.looked(n, lookup.Number, api.Rvalue{Kind: api.RTag, Place: q})
	case api.KPNum:
		t.Arg = b.looked(n, lookup.Number, used(b.use(q, lookup.Number)))
	case api.KPTruth:
		t.Kind, t.Values = api.TIf, nil
		if x.Num == 0 {
			t.To = []int{fails, fits}
		}
		t.Arg = b.looked(n, lookup.Truth, used(b.use(q, lookup.Truth)))
	}
	return t
}

// payload is the place of the payload that a pattern's variant has.
func (b *builder) payload(q api.Place, x *api.Node) api.Place {
	_, v := b.variant(x.Name)
	return behind(q, -2-v)
}

// looked is a new temporary, as an operand, with what a pattern looks at.
func (b *builder) looked(n int, t string, r api.Rvalue) api.Operand {
	p := b.temporary(t)
	b.set(p, r, b.span(n))
	return b.use(p, t)
}

// bind begins the variable of a pattern, if it has one, with what it fits.
func (b *builder) bind(n int, s subject) {
	q, r := s.held, used(b.use(s.place, s.t)) // of a variable that is the whole pattern
	for x := b.node(n); len(x.Kids) > 0; x = b.node(n) {
		n, q = x.Kids[0], b.payload(q, x)
		r = used(b.use(q, b.typeOf(n)))
		if s.ref {
			r = lent(q, s.mut)
		}
	}
	if b.node(n).Kind == api.KPVar {
		b.set(b.begin(n), r, b.span(n))
	}
}
