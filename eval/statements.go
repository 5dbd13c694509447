package eval

import "patina/api"

func (m *machine) statement(n int) {
	m.Step()
	x := m.node(n)
	switch x.Kind {
	case api.KLet:
		m.let(n)
	case api.KDo:
		m.Drop(m.value(x.Kids[0]), m.ofNodes[x.Kids[0]])
	case api.KSet:
		m.set(x)
	case api.KWhile:
		m.while(x)
	case api.KReturn:
		m.told = nil
		for _, kid := range x.Kids {
			m.told = m.value(kid)
		}
		m.leaveBy(byReturn)
	case api.KBreak:
		m.leaveBy(byBreak)
	case api.KNext:
		m.leaveBy(byNext)
	}
}

func (m *machine) let(n int) {
	kids := m.node(n).Kids
	of := kids[len(kids)-1]
	m.begin(m.vars[n], m.ofNodes[of], m.value(of))
}

func (m *machine) set(x *api.Node) {
	value := m.value(x.Kids[1])
	p := m.place(x.Kids[0])
	m.DropAt(p)
	m.Write(p, value)
}

func (m *machine) while(x *api.Node) {
	for m.holds(x.Kids[0]) {
		begun := len(m.begun)
		again := m.round(x.Kids[1])
		m.endScope(begun)
		if !again {
			return
		}
	}
}

// round walks a loop's block once, to its end or to what leaves it, and tells whether the loop goes on.
func (m *machine) round(n int) (again bool) {
	defer func() {
		if m.leaving == byBreak || m.leaving == byNext {
			recover()
			again, m.leaving = m.leaving == byNext, stays
		}
	}()
	m.value(n)
	return true
}
