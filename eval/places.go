package eval

import (
	"patina/api"
	"patina/store"
)

func isPlace(kind int) bool { return kind == api.KVar || kind == api.KGet || kind == api.KStar }

// place is the place that an expression is.
func (m *machine) place(n int) store.Place {
	m.Step()
	x := m.node(n)
	switch x.Kind {
	case api.KStar:
		return m.pointee(x.Kids[0])
	case api.KGet:
		return m.field(x)
	}
	return store.Whole(m.frame[m.vars[n]], m.ofNodes[n])
}

// pointee is the place to which a base points.
func (m *machine) pointee(base int) store.Place {
	if isPlace(m.node(base).Kind) {
		return m.FollowedAt(m.place(base))
	}
	return m.Followed(m.value(base)[0], m.ofNodes[base])
}

func (m *machine) field(x *api.Node) store.Place {
	var p store.Place
	if base := x.Kids[0]; isPlace(m.node(base).Kind) {
		p = m.place(base)
	} else {
		p = m.pointee(base) // which is a reference, since it is no place
	}
	for p.Shape.Points() {
		p = m.FollowedAt(p)
	}
	return p.Part(p.Shape.PartOf(x.Name))
}
