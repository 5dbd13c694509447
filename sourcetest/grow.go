package sourcetest

import (
	"slices"
	"strings"

	"patina/api"
)

// growing is a function of a source that grows: statements come to its body, which stands between its variables and what it tells.
type growing struct {
	api.Fn
	vars             []api.Local
	head, body, tail string
}

// Grown is a source that is taken: so many statements of a measure are made, one behind the other, and put in somewhere, if what comes of that is taken.
func (m *Maker) Grown(tries, measure int, taken func(source string) bool) string {
	var fns []*growing
	for _, f := range Functions() {
		fns = append(fns, m.seed(f))
	}
	for range tries {
		k := len(fns) - 1
		if m.one(2) {
			k = m.Choose(len(fns))
		}
		m.grow(fns, k, measure, taken)
	}
	return joined(fns)
}

// grow tries to put a statement into one of the functions.
func (m *Maker) grow(fns []*growing, k, measure int, taken func(source string) bool) {
	f := fns[k]
	m.vars, m.moved, m.ret, m.loops, m.fns = slices.Clone(f.vars), nil, f.Ret, m.Choose(2), nil
	for _, ahead := range fns[:k] {
		m.fns = append(m.fns, ahead.Name)
	}
	at := m.somewhere(f.body)
	before := f.body
	f.body = before[:at] + m.statement(measure) + " " + before[at:]
	if taken(joined(fns)) {
		f.vars = m.vars
	} else {
		f.body = before
	}
}

// somewhere is a place of a body behind which a statement may stand, most often.
func (m *Maker) somewhere(body string) int {
	places := []int{0}
	for k := 2; k <= len(body); k++ {
		if end := body[k-2 : k]; end == "; " || end == "{ " || end == "} " {
			places = append(places, k)
		}
	}
	return places[m.Choose(len(places))]
}

func joined(fns []*growing) string {
	s := Types
	for _, f := range fns {
		s += f.head + f.body + f.tail
	}
	return s
}

// seed is a function with variables of each kind, of which some are references to others, that tells what it must.
func (m *Maker) seed(f api.Fn) *growing {
	tails := []string{"x", "true", "e", "m", "x", "()", "x", "()"}
	k := slices.IndexFunc(Functions(), func(g api.Fn) bool { return g.Name == f.Name })
	g := &growing{Fn: f, tail: tails[k] + " } "}
	var params []string
	for k, p := range f.Params {
		g.vars = append(g.vars, api.Local{Name: p.Name, Type: p.Type, Mut: f.Muts[k]})
		params = append(params, mutWord(f.Muts[k])+p.Name+": "+p.Type)
	}
	g.head = "fn " + f.Name + "(" + strings.Join(params, ", ") + ") -> " + f.Ret + " { "
	all := f.Name == "main" || m.one(2)
	for _, v := range seedVariables() {
		if all {
			g.head += "let mut " + v[0] + " = " + v[2] + "; "
			g.vars = append(g.vars, api.Local{Name: v[0], Type: v[1], Mut: true})
		}
	}
	return g
}

// seedVariables are names, types and values of variables.
func seedVariables() [][3]string {
	return [][3]string{
		{"n1", "i64", "1"}, {"n2", "i64", "2"}, {"t1", "bool", "true"}, {"b1", "Box<i64>", "Box::new(3)"}, {"b2", "Box<i64>", "Box::new(4)"},
		{"s1", "S", "S { a: 5, b: Box::new(6) }"}, {"s2", "S", "S { a: 7, b: Box::new(8) }"}, {"e1", "E", "E::C(S { a: 9, b: Box::new(10) })"}, {"e2", "E", "E::B(11)"},
		{"l1", "L", "L::More(Box::new(L::End))"}, {"o1", "O", "O::W(E::B(12))"}, {"x1", "X", "X::K(Box::new(13))"}, {"x2", "X", "X::F(E::C(S { a: 14, b: Box::new(15) }))"}, {"c1", "Box<S>", "Box::new(S { a: 16, b: Box::new(17) })"}, {"d1", "Box<E>", "Box::new(E::C(S { a: 18, b: Box::new(19) }))"},
		{"p1", "P", "P { s: S { a: 20, b: Box::new(21) }, q: false, l: Box::new(L::End) }"},
		{"r1", "&i64", "&n1"}, {"r2", "&mut i64", "&mut n2"}, {"r3", "&S", "&s1"}, {"r4", "&mut S", "&mut s2"}, {"r5", "&mut E", "&mut e1"}, {"r6", "&E", "&*d1"}, {"r7", "&mut L", "&mut l1"}, {"r8", "&mut X", "&mut x1"}, {"r9", "&X", "&x2"}, {"r0", "&mut P", "&mut p1"}, {"q1", "&Box<i64>", "&b1"}, {"q2", "&mut Box<i64>", "&mut b2"}, {"q3", "&mut i64", "&mut c1.a"},
	}
}
