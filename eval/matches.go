package eval

import (
	"patina/api"
	"patina/store"
)

// match is what the first arm tells whose pattern fits.
func (m *machine) match(x *api.Node) []store.Word {
	begun := len(m.begun)
	subject := m.subject(x.Kids[0])
	for _, kid := range x.Kids[1:] {
		pattern, told := m.node(kid).Kids[0], m.node(kid).Kids[1]
		held := m.held(pattern, subject)
		if m.fits(pattern, held) {
			m.bind(pattern, subject, held)
			value := m.value(told)
			m.endScope(begun)
			return value
		}
	}
	m.Exit(api.ExitPanic)
	return nil
}

// subject is the place of a match's subject: a value is held by a temporary, which is dropped as the match's own scope ends.
func (m *machine) subject(n int) store.Place {
	if isPlace(m.node(n).Kind) {
		return m.place(n)
	}
	p := store.Whole(store.NewObject(m.value(n)), m.ofNodes[n])
	m.begun = append(m.begun, p)
	return p
}

// held is what an arm's pattern is held against. A pattern that fits all does not look at it, so that nothing is followed for it.
func (m *machine) held(pattern int, subject store.Place) store.Place {
	if subject.Shape.Form != store.Reference || m.fitsAll(pattern) {
		return subject
	}
	return m.FollowedAt(subject)
}

func (m *machine) fitsAll(pattern int) bool {
	kind := m.node(pattern).Kind
	return kind == api.KPAny || kind == api.KPVar
}

// fits tests a pattern against what is at a place.
func (m *machine) fits(n int, p store.Place) bool {
	m.Step()
	if m.fitsAll(n) {
		return true
	}
	x := m.node(n)
	there := m.ReadWord(p.Pointer)
	if x.Kind != api.KPPick {
		return there == store.Number(x.Num)
	}
	k := variantOf(p.Shape, x.Name)
	return there == store.Number(k) && (len(x.Kids) == 0 || m.fits(x.Kids[0], p.Part(k)))
}

// bind begins the variable of a pattern that fits, if it has one.
func (m *machine) bind(n int, subject, held store.Place) {
	if m.node(n).Kind == api.KPVar {
		m.begin(m.vars[n], m.ofNodes[n], m.Use(subject))
		return
	}
	n, held = m.innermost(n, held)
	if m.node(n).Kind != api.KPVar {
		return
	}
	if subject.Shape.Form == store.Reference {
		m.begin(m.vars[n], m.ofNodes[n], []store.Word{held.Pointer})
	} else {
		m.begin(m.vars[n], m.ofNodes[n], m.Use(held))
	}
}

// innermost is the pattern that stands in no other one's way any more, and what it is held against.
func (m *machine) innermost(n int, held store.Place) (int, store.Place) {
	for x := m.node(n); len(x.Kids) > 0; x = m.node(n) {
		n, held = x.Kids[0], held.Part(variantOf(held.Shape, x.Name))
	}
	return n, held
}
