package build

import (
	"math/rand"
	"slices"
	"strconv"
	"strings"

	"patina/api"
)

// madeTypes are the types that sources of makers have; values of X lie in one another's words.
const madeTypes = "struct S { a: i64, b: Box<i64> } struct P { s: S, q: bool, l: Box<L> } struct N { u: () } " +
	"enum E { A, B(i64), C(S) } enum L { End, More(Box<L>) } enum O { W(E), T(bool), Z } enum X { I(i64), K(Box<i64>), F(E), Q(bool), M(Box<S>) } "

// plainTypes are those of sources without Boxes.
const plainTypes = "struct D { x: i64, y: bool } enum Y { A, B(i64), C(bool), F(D) } "

func madeFns() []api.Fn {
	p := func(name, t string) api.Field { return api.Field{Name: name, Type: t} }
	return []api.Fn{
		{Name: "f", Params: []api.Field{p("x", "i64")}, Muts: []bool{true}, Ret: "i64"},
		{Name: "g", Params: []api.Field{p("s", "&mut S"), p("e", "E")}, Muts: []bool{false, true}, Ret: "bool"},
		{Name: "h", Params: []api.Field{p("e", "&E"), p("o", "O")}, Muts: []bool{true, true}, Ret: "&E"},
		{Name: "k", Params: []api.Field{p("b", "Box<S>"), p("m", "&mut P"), p("n", "N")}, Muts: []bool{true, false, false}, Ret: "&mut P"},
		{Name: "l", Params: []api.Field{p("x", "L"), p("y", "&P"), p("z", "&mut X")}, Muts: []bool{true, false, false}, Ret: "L"},
		{Name: "u", Ret: "()"},
		{Name: "two", Params: []api.Field{p("x", "i64"), p("y", "i64")}, Muts: []bool{false, true}, Ret: "i64"},
		{Name: "main", Ret: "()"},
	}
}

func structFields(t string) []api.Field {
	return map[string][]api.Field{
		"S": {{Name: "a", Type: "i64"}, {Name: "b", Type: "Box<i64>"}},
		"P": {{Name: "s", Type: "S"}, {Name: "q", Type: "bool"}, {Name: "l", Type: "Box<L>"}},
		"N": {{Name: "u", Type: "()"}},
		"D": {{Name: "x", Type: "i64"}, {Name: "y", Type: "bool"}},
	}[t]
}

func enumVariants(t string) []api.Field {
	return map[string][]api.Field{
		"E": {{Name: "A"}, {Name: "B", Type: "i64"}, {Name: "C", Type: "S"}},
		"L": {{Name: "End"}, {Name: "More", Type: "Box<L>"}},
		"O": {{Name: "W", Type: "E"}, {Name: "T", Type: "bool"}, {Name: "Z"}},
		"Y": {{Name: "A"}, {Name: "B", Type: "i64"}, {Name: "C", Type: "bool"}, {Name: "F", Type: "D"}},
		"X": {{Name: "I", Type: "i64"}, {Name: "K", Type: "Box<i64>"}, {Name: "F", Type: "E"}, {Name: "Q", Type: "bool"}, {Name: "M", Type: "Box<S>"}},
	}[t]
}

// maker makes sources that can be typed, and mostly do something ahead of their end.
type maker struct {
	r     *rand.Rand
	vars  []api.Local // those that are seen
	moved []string    // whose names are better left alone
	fns   []string    // that may be called
	plain bool        // without references, Boxes, and uses of what may be moved
	ret   string
	loops int
	count int
}

func pick[T any](m *maker, l ...T) T { return l[m.r.Intn(len(l))] }

func (m *maker) one(in int) bool { return m.r.Intn(in) == 0 }

func isCopied(t string) bool {
	return t == "i64" || t == "bool" || t == "()" || t[0] == '&' && !strings.HasPrefix(t, "&mut ")
}

// may tells whether a function may be called.
func (m *maker) may(name string) bool { return slices.Contains(m.fns, name) }

func (m *maker) plainType() string {
	if m.plain {
		return pick(m, "i64", "i64", "bool", "()", "D", "Y")
	}
	t := pick(m, "i64", "i64", "i64", "bool", "()", "S", "S", "P", "N", "E", "E", "L", "O", "X")
	for m.one(4) {
		t = "Box<" + t + ">"
	}
	return t
}

func (m *maker) aType() string {
	if m.plain {
		return m.plainType()
	}
	return pick(m, "", "", "", "&", "&mut ") + m.plainType()
}

// spot is a place that can be written: its text, its type, and whether it may be changed.
type spot struct {
	text, t string
	mut     bool
}

// spots are all places to which some steps lead from the variables that are seen.
func (m *maker) spots() []spot {
	var l []spot
	var hidden []string
	for _, v := range slices.Backward(m.vars) {
		if !slices.Contains(hidden, v.Name) && (!slices.Contains(m.moved, v.Name) || m.one(20)) {
			l = append(l, spot{v.Name, v.Type, v.Mut})
		}
		hidden = append(hidden, v.Name)
	}
	from := 0
	for range 3 {
		end := len(l)
		for _, s := range l[from:end] {
			l = append(l, s.next()...)
		}
		from = end
	}
	return l
}

// next are the places one step behind a place.
func (s spot) next() []spot {
	var l []spot
	may, t := s.mut, s.t
	for first := true; ; first = false {
		inner := ""
		switch {
		case strings.HasPrefix(t, "&mut "):
			inner, may = t[5:], true
		case strings.HasPrefix(t, "&"):
			inner, may = t[1:], false
		case strings.HasPrefix(t, "Box<"):
			inner = t[4 : len(t)-1]
		}
		if inner == "" {
			break
		}
		t = inner
		if first {
			l = append(l, spot{"(*" + s.text + ")", t, may})
		}
	}
	for _, f := range structFields(t) {
		l = append(l, spot{s.text + "." + f.Name, f.Type, may})
	}
	return l
}

func (s spot) variable() string {
	return strings.TrimLeft(strings.FieldsFunc(s.text, func(r rune) bool { return r == '.' || r == ')' })[0], "(*")
}

// place is one of the places that fit, if there are any.
func (m *maker) place(fits func(s spot) bool) (spot, bool) {
	l := slices.DeleteFunc(m.spots(), func(s spot) bool { return !fits(s) })
	if len(l) == 0 {
		return spot{}, false
	}
	return l[m.r.Intn(len(l))], true
}

// expr is an expression of a type.
func (m *maker) expr(t string, measure int) string {
	often := 5
	if isCopied(t) {
		often = 2
	}
	if isCopied(t) && measure <= 0 || m.one(often) && (isCopied(t) || !m.plain) {
		if s, there := m.place(func(s spot) bool { return s.t == t }); there {
			if !isCopied(t) {
				m.moved = append(m.moved, s.variable())
			}
			return s.text
		}
	}
	if measure > 0 && m.one(4) {
		return m.blocky(t, measure-1)
	}
	return m.made(t, measure-1)
}

// made is an expression that its type says how to make.
func (m *maker) made(t string, measure int) string {
	inner := strings.TrimPrefix(strings.TrimPrefix(t, "&"), "mut ")
	switch {
	case t == "!":
		return pick(m, "panic()", "({ panic() })", "({ panic(); })", "({ "+m.leave(measure)+" })", "({ "+m.leave(measure)+" })", "({ "+m.leave(measure)+" })")
	case t[0] == '&':
		if m.may("k") && measure > 0 && t == "&mut P" {
			return m.callOf("k", measure)
		}
		if m.may("h") && measure > 0 && t == "&E" {
			return m.callOf("h", measure)
		}
		want := strings.HasPrefix(t, "&mut ")
		if s, there := m.place(func(s spot) bool { return s.t == inner && (s.mut || !want) }); there {
			return "(" + t[:len(t)-len(inner)] + s.text + ")"
		}
		return "({ let mut z = " + m.expr(inner, measure) + "; " + t[:len(t)-len(inner)] + "z })"
	case strings.HasPrefix(t, "Box<"):
		return "Box::new(" + m.expr(t[4:len(t)-1], measure) + ")"
	case t == "L" && m.may("l") && measure > 0 && m.one(3):
		return m.callOf("l", measure)
	case structFields(t) != nil:
		return m.structure(t, measure)
	case enumVariants(t) != nil:
		return m.variant(t, measure)
	case measure > 0 && t != "()":
		return m.sum(t, measure)
	}
	switch t {
	case "i64":
		return pick(m, "0", "1", "2", "3", "42", "9223372036854775807", "read()", "(-1)")
	case "bool":
		return pick(m, "true", "true", "false")
	}
	if m.may("u") && m.one(3) {
		return "u()"
	}
	return pick(m, "()", "print("+m.expr("i64", measure)+")")
}

func (m *maker) callOf(name string, measure int) string {
	var args []string
	for _, f := range madeFns() {
		for _, p := range f.Params {
			if f.Name == name {
				args = append(args, m.expr(p.Type, measure-1))
			}
		}
	}
	return name + "(" + strings.Join(args, ", ") + ")"
}

func (m *maker) structure(t string, measure int) string {
	l := slices.Clone(structFields(t))
	m.r.Shuffle(len(l), func(a, b int) { l[a], l[b] = l[b], l[a] })
	var texts []string
	for _, f := range l {
		texts = append(texts, f.Name+": "+m.expr(f.Type, measure))
	}
	return "(" + t + " { " + strings.Join(texts, ", ") + " })"
}

func (m *maker) variant(t string, measure int) string {
	l := enumVariants(t)
	if measure <= 0 && t != "X" {
		l = slices.DeleteFunc(slices.Clone(l), func(v api.Field) bool { return v.Type != "" })
	}
	v := pick(m, l...)
	if v.Type == "" {
		return t + "::" + v.Name
	}
	return t + "::" + v.Name + "(" + m.expr(v.Type, measure) + ")"
}

// sum is a number or a truth made of others, or a call.
func (m *maker) sum(t string, measure int) string {
	part := func(t string) string { return m.expr(t, measure) }
	if t == "bool" {
		switch m.r.Intn(4) {
		case 0:
			return "(!" + part(t) + ")"
		case 1:
			return "(" + part(t) + pick(m, " && ", " || ", " == ", " != ") + part(t) + ")"
		case 2:
			if m.may("k") {
				return pick(m, m.callOf("g", measure), m.callOf("k", measure)+".q")
			}
		}
		return "(" + part("i64") + pick(m, " < ", " <= ", " > ", " >= ", " == ", " != ") + part("i64") + ")"
	}
	switch m.r.Intn(5) {
	case 0:
		return "(-" + part(t) + ")"
	case 1:
		if m.may("f") {
			return m.callOf("f", measure)
		}
	case 2:
		if m.may("k") {
			return m.callOf("k", measure) + ".s.a"
		}
	}
	return "(" + part(t) + pick(m, " + ", " + ", " - ", " - ", " * ", " / ", " % ") + part(t) + ")"
}

// blocky is an if, a match or a block that tells a type: one of its arms does, others may tell nothing ever.
func (m *maker) blocky(t string, measure int) string {
	sure := m.r.Intn(3)
	arm := func(k int) func() string {
		return func() string {
			if k != sure && m.one(6) {
				return m.expr("!", measure)
			}
			return m.expr(t, measure)
		}
	}
	cond := func() string { return "if " + m.expr("bool", measure) + " " }
	switch m.r.Intn(5) {
	case 0:
		sure %= 2
		return "(" + cond() + m.block(arm(0)) + " else " + m.block(arm(1)) + ")"
	case 1:
		return "(" + cond() + m.block(arm(0)) + " else " + cond() + m.block(arm(1)) + " else " + m.block(arm(2)) + ")"
	case 2:
		return "(" + m.block(arm(sure)) + ")"
	}
	subject := pick(m, "i64", "bool", "Y", "Y")
	if !m.plain {
		subject = pick(m, "", "", "&", "&mut ") + pick(m, "i64", "bool", "E", "E", "O", "L", "X", "X", "S", "Box<i64>")
	}
	var s strings.Builder
	s.WriteString("(match " + m.expr(subject, measure) + " { ")
	for k := range 3 + m.r.Intn(3) {
		outer := len(m.vars)
		s.WriteString(m.pattern(subject) + " => " + arm(k)() + ", ")
		m.vars = m.vars[:outer]
	}
	return s.String() + pick(m, "_ => "+m.expr(t, 0)+" })", "_ => "+m.expr(t, 0)+" })", "})")
}

// block is a block with some statements, and what it tells, in a scope.
func (m *maker) block(last func() string) string {
	outer := len(m.vars)
	var s strings.Builder
	s.WriteString("{ ")
	for range m.r.Intn(3) {
		s.WriteString(m.statement(1) + " ")
	}
	s.WriteString(last() + " }")
	m.vars = m.vars[:outer]
	return s.String()
}

func (m *maker) name() string {
	m.count++
	return pick(m, "a", "b", "v"+strconv.Itoa(m.count), "v"+strconv.Itoa(m.count))
}

func (m *maker) pattern(t string) string {
	sign, holds := "", t
	if t[0] == '&' {
		holds = strings.TrimPrefix(t[1:], "mut ")
		sign = t[:len(t)-len(holds)]
	}
	switch {
	case m.one(12):
		return "_"
	case m.one(8):
	case holds == "i64":
		return pick(m, "0", "1", "2", "42", "-1")
	case holds == "bool":
		return pick(m, "true", "false")
	case enumVariants(holds) != nil:
		v := pick(m, enumVariants(holds)...)
		if v.Type == "" {
			return holds + "::" + v.Name
		}
		return holds + "::" + v.Name + "(" + m.pattern(sign+v.Type) + ")"
	}
	return m.declared(t, false)
}

// declared is the name of a new variable, of which nothing was moved yet.
func (m *maker) declared(t string, mut bool) string {
	name := m.name()
	m.vars = append(m.vars, api.Local{Name: name, Type: t, Mut: mut})
	m.moved = slices.DeleteFunc(m.moved, func(s string) bool { return s == name })
	return name
}

// leave is a statement that never goes on.
func (m *maker) leave(measure int) string {
	if m.loops > 0 && m.one(2) {
		return pick(m, "break;", "continue;")
	}
	if m.ret == "()" && m.one(2) {
		return "return;"
	}
	return "return " + m.expr(m.ret, measure) + ";"
}

func (m *maker) let(t string, measure int) string {
	said, mut := "", m.r.Intn(3) > 0
	if m.one(3) {
		said = ": " + t
	}
	value := m.expr(t, measure)
	return "let " + map[bool]string{true: "mut "}[mut] + m.declared(t, mut) + said + " = " + value + ";"
}

func (m *maker) statement(measure int) string {
	switch m.r.Intn(12) {
	case 0, 1, 2:
		return m.let(m.aType(), measure)
	case 3, 4:
		if s, there := m.place(func(s spot) bool { return s.mut }); there {
			return s.text + " = " + m.expr(s.t, measure) + ";"
		}
	case 5:
		return m.loop(measure)
	case 6:
		if measure > 0 {
			return "if " + m.expr("bool", measure-1) + " " + m.block(func() string { return m.last(measure - 1) })
		}
	case 7:
		if m.one(8) {
			return m.leave(measure)
		}
	case 8, 9, 10:
		return "print(" + m.expr("i64", measure) + ");"
	}
	return m.expr(pick(m, m.aType(), m.aType(), m.aType(), "()", "i64"), measure) + ";"
}

// last is what a block that tells nothing ends with.
func (m *maker) last(measure int) string {
	switch m.r.Intn(6) {
	case 0, 1:
		return m.statement(measure)
	case 2:
		return m.expr("()", measure)
	case 3, 4:
		return m.leave(measure)
	}
	return ""
}

// loop is a loop that mostly ends after some rounds.
func (m *maker) loop(measure int) string {
	m.count++
	i := "c" + strconv.Itoa(m.count)
	cond, step := "("+i+" < "+strconv.Itoa(m.r.Intn(4))+")", i+" = "+i+" + 1;"
	if m.one(4) {
		cond += pick(m, " && ", " || ") + m.expr("bool", measure)
	}
	if m.one(10) {
		cond = "({ " + step + " " + m.expr("bool", measure) + " }) && " + cond
	}
	m.loops++
	body := m.block(func() string { return m.last(measure) })
	m.loops--
	return "let mut " + i + " = 0; while " + cond + " { " + step + " " + body + " }"
}

// source is a source with bodies of so much measure.
func (m *maker) source(measure int) string {
	var s strings.Builder
	s.WriteString(map[bool]string{false: madeTypes, true: plainTypes}[m.plain])
	m.fns = nil
	for _, f := range madeFns() {
		if m.plain && !slices.Contains([]string{"f", "u", "two", "main"}, f.Name) {
			continue
		}
		ahead := m.fns
		if m.one(10) {
			m.fns = append(slices.Clone(ahead), f.Name)
		}
		s.WriteString(m.function(f, measure))
		m.fns = append(slices.Clone(ahead), f.Name)
	}
	return s.String()
}

func (m *maker) function(f api.Fn, measure int) string {
	m.vars, m.moved, m.ret, m.loops = nil, nil, f.Ret, 0
	var params []string
	for k, p := range f.Params {
		m.vars = append(m.vars, api.Local{Name: p.Name, Type: p.Type, Mut: f.Muts[k]})
		params = append(params, map[bool]string{true: "mut "}[f.Muts[k]]+p.Name+": "+p.Type)
	}
	var s strings.Builder
	s.WriteString("fn " + f.Name + "(" + strings.Join(params, ", ") + ") -> " + f.Ret + " { ")
	for range 1 + m.r.Intn(4) {
		s.WriteString(m.let(m.plainType(), measure) + " ")
	}
	for range m.r.Intn(5) {
		s.WriteString(m.statement(measure) + " ")
	}
	s.WriteString(m.expr(f.Ret, measure) + " } ")
	return s.String()
}

// shuffled is the same tree with its nodes in another order, each behind its kids.
func shuffled(r *rand.Rand, t api.Tree) api.Tree {
	places := make([]int, len(t.Nodes))
	left := make([]int, len(t.Nodes))
	parent := make([]int, len(t.Nodes))
	var ready []int
	for k, n := range t.Nodes {
		left[k] = len(n.Kids)
		for _, kid := range n.Kids {
			parent[kid] = k
		}
		if left[k] == 0 {
			ready = append(ready, k)
		}
	}
	var out api.Tree
	for len(ready) > 0 {
		i := r.Intn(len(ready))
		k := ready[i]
		ready = slices.Delete(ready, i, i+1)
		n := t.Nodes[k]
		n.Kids = nil
		for _, kid := range t.Nodes[k].Kids {
			n.Kids = append(n.Kids, places[kid])
		}
		places[k] = len(out.Nodes)
		out.Nodes = append(out.Nodes, n)
		if k == len(t.Nodes)-1 {
			break
		}
		if left[parent[k]]--; left[parent[k]] == 0 {
			ready = append(ready, parent[k])
		}
	}
	return out
}
