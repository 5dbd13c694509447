package eval

import "patina/api"

func isPlace(kind int) bool { return kind == api.KVar || kind == api.KGet || kind == api.KStar }

// place is the place that an expression is.
func (m *machine) place(n int) place {
	m.step()
	x := m.node(n)
	switch x.Kind {
	case api.KStar:
		return m.pointee(x.Kids[0])
	case api.KGet:
		return m.field(x)
	}
	return wholeOf(m.frame[m.vars[n]], m.ofNodes[n])
}

// pointee is the place to which a base points.
func (m *machine) pointee(base int) place {
	if isPlace(m.node(base).Kind) {
		return m.followed(m.place(base))
	}
	return place{m.follow(m.value(base)[0]), m.shapes.of(m.ofNodes[base].behind)}
}

func (m *machine) field(x *api.Node) place {
	var p place
	if base := x.Kids[0]; isPlace(m.node(base).Kind) {
		p = m.place(base)
	} else {
		p = m.pointee(base) // which is a reference, since it is no place
	}
	for p.shape.behind != "" {
		p = m.followed(p)
	}
	return p.part(p.shape.partOf(x.Name))
}
