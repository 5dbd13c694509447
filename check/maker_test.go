package check

import (
	"math/rand"
	"slices"
	"strconv"
	"strings"

	"patina/api"
)

// madeTypes are the types that sources of makers have.
const madeTypes = "struct S { a: i64, b: Box<i64> } struct P { s: S, q: bool, l: Box<L> } struct N { } enum E { A, B(i64), C(S) } enum L { End, More(Box<L>) } enum O { W(E), T(bool), Z } "

func madeFns() []api.Fn {
	p := func(name, t string) api.Field { return api.Field{Name: name, Type: t} }
	return []api.Fn{
		{Name: "f", Params: []api.Field{p("x", "i64")}, Muts: []bool{false}, Ret: "i64"},
		{Name: "g", Params: []api.Field{p("s", "&mut S"), p("p", "P")}, Muts: []bool{true, true}, Ret: "bool"},
		{Name: "h", Params: []api.Field{p("e", "&E"), p("o", "O")}, Muts: []bool{false, true}, Ret: "&E"},
		{Name: "k", Params: []api.Field{p("b", "Box<S>"), p("m", "&mut P"), p("n", "N")}, Muts: []bool{true, false, false}, Ret: "&mut P"},
		{Name: "l", Params: []api.Field{p("x", "L"), p("y", "&P"), p("z", "&mut O")}, Muts: []bool{false, false, false}, Ret: "L"},
		{Name: "u", Ret: "()"},
		{Name: "main", Ret: "()"},
	}
}

func structFields(t string) []api.Field {
	return map[string][]api.Field{
		"S": {{Name: "a", Type: "i64"}, {Name: "b", Type: "Box<i64>"}},
		"P": {{Name: "s", Type: "S"}, {Name: "q", Type: "bool"}, {Name: "l", Type: "Box<L>"}},
	}[t]
}

func enumVariants(t string) []api.Field {
	return map[string][]api.Field{
		"E": {{Name: "A"}, {Name: "B", Type: "i64"}, {Name: "C", Type: "S"}},
		"L": {{Name: "End"}, {Name: "More", Type: "Box<L>"}},
		"O": {{Name: "W", Type: "E"}, {Name: "T", Type: "bool"}, {Name: "Z"}},
	}[t]
}

// maker makes sources in which nearly all fits: at odds of one to so many a part is another one than is asked for.
type maker struct {
	r     *rand.Rand
	odds  int
	vars  []api.Local // those that are seen
	ret   string
	loops int
	count int
}

func (m *maker) rarely() bool { return m.odds > 0 && m.r.Intn(m.odds) == 0 }

func pick[T any](m *maker, l ...T) T { return l[m.r.Intn(len(l))] }

func (m *maker) plainType() string {
	t := pick(m, "i64", "i64", "i64", "bool", "bool", "()", "S", "P", "N", "E", "L", "O")
	for m.r.Intn(4) == 0 {
		t = "Box<" + t + ">"
	}
	return t
}

func (m *maker) aType() string { return pick(m, "", "", "", "&", "&mut ") + m.plainType() }

// spot is a place that can be written: its text, its type, and whether it may be changed.
type spot struct {
	text, t string
	mut     bool
}

// spots are all places to which some steps lead from the variables that are seen.
func (m *maker) spots() []spot {
	var l []spot
	hidden := map[string]bool{}
	for _, v := range slices.Backward(m.vars) {
		if !hidden[v.Name] {
			l = append(l, spot{v.Name, v.Type, v.Mut})
		}
		hidden[v.Name] = true
	}
	from := 0
	for range 3 {
		end := len(l)
		for _, s := range l[from:end] {
			l = append(l, s.next()...)
		}
		from = end
	}
	return l
}

// next are the places one step behind a place.
func (s spot) next() []spot {
	var l []spot
	may, t := s.mut, s.t
	for first := true; ; first = false {
		inner := ""
		switch {
		case strings.HasPrefix(t, "&mut "):
			inner, may = t[5:], true
		case strings.HasPrefix(t, "&"):
			inner, may = t[1:], false
		case strings.HasPrefix(t, "Box<"):
			inner = t[4 : len(t)-1]
		}
		if inner == "" {
			break
		}
		t = inner
		if first {
			l = append(l, spot{"(*" + s.text + ")", t, may})
		}
	}
	for _, f := range structFields(t) {
		l = append(l, spot{s.text + "." + f.Name, f.Type, may})
	}
	return l
}

// place is one of the places that fit, if there are any.
func (m *maker) place(fits func(s spot) bool) (spot, bool) {
	l := slices.DeleteFunc(m.spots(), func(s spot) bool { return !fits(s) && !m.rarely() })
	if len(l) == 0 {
		return spot{}, false
	}
	return l[m.r.Intn(len(l))], true
}

// expr is an expression of a type.
func (m *maker) expr(t string, measure int) string {
	if m.rarely() {
		t = pick(m, m.aType(), "!", "i64", "bool")
	}
	if m.rarely() {
		return pick(m, "nothing", "panic()", "(S { })", "E::D", "E::A(1)", "E::B", "f()", "f(1, 2)", "e()", "1.a", "(*1)", "(&1)", "(&mut 1)", "Box::new(panic())", "(S { a: 1, a: 2 })", "(S { c: 1 })", "(N { a: 1 })", "(T { })", "({ break; })", "({ return; })", "(*true)", "main", "S::a", "panic(1)", "print()", "read(1)")
	}
	if measure <= 0 || m.r.Intn(5) == 0 {
		if s, there := m.place(func(s spot) bool { return s.t == t }); there {
			return s.text
		}
	}
	if measure > 0 && m.r.Intn(4) == 0 {
		return m.blocky(t, measure-1)
	}
	return m.made(t, measure-1)
}

// made is an expression that its type says how to make.
func (m *maker) made(t string, measure int) string {
	inner := strings.TrimPrefix(strings.TrimPrefix(t, "&"), "mut ")
	switch {
	case t == "!":
		return pick(m, "panic()", "({ panic() })", "({ panic(); })", "({ "+m.leave(measure)+" })")
	case t[0] == '&':
		want := strings.HasPrefix(t, "&mut ")
		if s, there := m.place(func(s spot) bool { return s.t == inner && (s.mut || !want) }); there {
			return "(" + t[:len(t)-len(inner)] + s.text + ")"
		}
		return "({ let mut z = " + m.expr(inner, measure) + "; " + t[:len(t)-len(inner)] + "z })"
	case strings.HasPrefix(t, "Box<"):
		return "Box::new(" + m.expr(t[4:len(t)-1], measure) + ")"
	case structFields(t) != nil:
		return m.structure(t, measure)
	case enumVariants(t) != nil:
		return m.variant(t, measure)
	case measure > 0 && t != "()" && t != "N":
		return m.sum(t, measure)
	}
	switch t {
	case "i64":
		return pick(m, "0", "1", "42", "read()")
	case "bool":
		return pick(m, "true", "false")
	case "()":
		return pick(m, "()", "u()", "print(1)", "main()")
	}
	return "(N { })"
}

func (m *maker) structure(t string, measure int) string {
	l := slices.Clone(structFields(t))
	m.r.Shuffle(len(l), func(a, b int) { l[a], l[b] = l[b], l[a] })
	var texts []string
	for _, f := range l {
		texts = append(texts, f.Name+": "+m.expr(f.Type, measure))
	}
	return "(" + t + " { " + strings.Join(texts, ", ") + " })"
}

func (m *maker) variant(t string, measure int) string {
	l := enumVariants(t)
	if measure <= 0 {
		l = slices.DeleteFunc(slices.Clone(l), func(v api.Field) bool { return v.Type != "" })
	}
	v := pick(m, l...)
	if v.Type == "" {
		return t + "::" + v.Name
	}
	return t + "::" + v.Name + "(" + m.expr(v.Type, measure) + ")"
}

// sum is a number or a truth made of others, or a call.
func (m *maker) sum(t string, measure int) string {
	part := func(t string) string { return m.expr(t, measure) }
	if t == "bool" {
		switch m.r.Intn(4) {
		case 0:
			return "(!" + part(t) + ")"
		case 1:
			return "(" + part(t) + pick(m, " && ", " || ", " == ", " != ") + part(t) + ")"
		case 2:
			return pick(m, "g("+part("&mut S")+", "+part("P")+")", "k("+part("Box<S>")+", "+part("&mut P")+", "+part("N")+").q")
		}
		return "(" + part("i64") + pick(m, " < ", " <= ", " > ", " >= ", " == ", " != ") + part("i64") + ")"
	}
	switch m.r.Intn(4) {
	case 0:
		return "(-" + part(t) + ")"
	case 1:
		return "f(" + part(t) + ")"
	case 2:
		return "k(" + part("Box<S>") + ", " + part("&mut P") + ", " + part("N") + ").s.a"
	}
	return "(" + part(t) + pick(m, " + ", " - ", " * ", " / ", " % ") + part(t) + ")"
}

// blocky is an if, a match or a block that tells a type: one of its arms does, others may tell nothing ever.
func (m *maker) blocky(t string, measure int) string {
	sure := m.r.Intn(3)
	arm := func(k int) func() string {
		return func() string {
			if k != sure && m.r.Intn(4) == 0 {
				return m.expr("!", measure)
			}
			return m.expr(t, measure)
		}
	}
	cond := func() string { return "if " + m.expr("bool", measure) + " " }
	switch m.r.Intn(4) {
	case 0:
		sure %= 2
		return "(" + cond() + m.block(arm(0)) + " else " + m.block(arm(1)) + ")"
	case 1:
		return "(" + cond() + m.block(arm(0)) + " else " + cond() + m.block(arm(1)) + " else " + m.block(arm(2)) + ")"
	case 2:
		return "(" + m.block(arm(sure)) + ")"
	}
	subject := m.aType()
	var s strings.Builder
	s.WriteString("(match " + m.expr(subject, measure) + " { ")
	for k := range 3 {
		outer := len(m.vars)
		s.WriteString(m.pattern(subject) + " => " + arm(k)() + ", ")
		m.vars = m.vars[:outer]
	}
	return s.String() + "})"
}

// block is a block with some statements, and what it tells, in a scope.
func (m *maker) block(last func() string) string {
	outer := len(m.vars)
	var s strings.Builder
	s.WriteString("{ ")
	for range m.r.Intn(3) {
		s.WriteString(m.statement(1) + " ")
	}
	s.WriteString(last() + " }")
	m.vars = m.vars[:outer]
	return s.String()
}

func (m *maker) name() string {
	m.count++
	return pick(m, "a", "b", "x", "y", "v"+strconv.Itoa(m.count))
}

func (m *maker) pattern(t string) string {
	sign := ""
	holds := t
	if t[0] == '&' {
		holds = strings.TrimPrefix(t[1:], "mut ")
		sign = t[:len(t)-len(holds)]
	}
	if m.rarely() {
		holds = pick(m, "i64", "bool", "E", "O", "L")
	}
	switch {
	case m.r.Intn(5) == 0:
		return "_"
	case m.r.Intn(5) == 0:
	case holds == "i64":
		return pick(m, "0", "7", "-3")
	case holds == "bool":
		return pick(m, "true", "false")
	case enumVariants(holds) != nil:
		v := pick(m, enumVariants(holds)...)
		payload := v.Type
		if m.rarely() {
			payload = pick(m, "", "i64")
		}
		if payload == "" {
			return holds + "::" + v.Name
		}
		return holds + "::" + v.Name + "(" + m.pattern(sign+payload) + ")"
	}
	name := m.name()
	m.vars = append(m.vars, api.Local{Name: name, Type: t})
	return name
}

// leave is a statement that never goes on.
func (m *maker) leave(measure int) string {
	if m.loops > 0 && m.r.Intn(2) == 0 || m.rarely() {
		return pick(m, "break;", "continue;")
	}
	if m.ret == "()" && m.r.Intn(2) == 0 || m.rarely() {
		return "return;"
	}
	return "return " + m.expr(pick(m, m.ret, m.ret, "!"), measure) + ";"
}

func (m *maker) statement(measure int) string {
	switch m.r.Intn(9) {
	case 0, 1, 2:
		t, mut, said := m.aType(), m.r.Intn(2), ""
		if m.r.Intn(3) == 0 {
			said = ": " + t
			if m.rarely() {
				said = pick(m, ": X", ": & &i64", ": Box<&X>", ": Box<&S>", ": &Box<&mut S>", ": i64", ": &Y")
			}
		}
		value := m.expr(t, measure)
		name := m.name()
		m.vars = append(m.vars, api.Local{Name: name, Type: t, Mut: mut == 1})
		return "let " + []string{"", "mut "}[mut] + name + said + " = " + value + ";"
	case 3, 4:
		if s, there := m.place(func(s spot) bool { return s.mut }); there {
			return s.text + " = " + m.expr(s.t, measure) + ";"
		}
	case 5:
		cond := m.expr("bool", measure)
		m.loops++
		body := m.block(func() string {
			return pick(m, "", "", m.expr("()", measure), m.leave(measure))
		})
		m.loops--
		return "while " + cond + " " + body
	case 6:
		if measure > 0 {
			return "if " + m.expr("bool", measure-1) + " " + m.block(func() string { return pick(m, "", m.leave(measure-1), m.statement(measure-1)) })
		}
	case 7:
		if m.r.Intn(4) == 0 {
			return m.leave(measure)
		}
	}
	return m.expr(pick(m, m.aType(), m.aType(), m.aType(), "!"), measure) + ";"
}

// source is a source with bodies of so much measure.
func (m *maker) source(measure int) string {
	var s strings.Builder
	s.WriteString(madeTypes)
	for _, f := range madeFns() {
		m.vars, m.ret, m.loops = nil, f.Ret, 0
		var params []string
		for k, p := range f.Params {
			m.vars = append(m.vars, api.Local{Name: p.Name, Type: p.Type, Mut: f.Muts[k]})
			params = append(params, map[bool]string{true: "mut "}[f.Muts[k]]+p.Name+": "+p.Type)
		}
		s.WriteString("fn " + f.Name + "(" + strings.Join(params, ", ") + ") -> " + f.Ret + " ")
		s.WriteString(m.block(func() string { return m.expr(f.Ret, measure) }) + " ")
	}
	return s.String()
}
