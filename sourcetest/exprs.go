package sourcetest

import (
	"slices"
	"strings"

	"patina/api"
)

// expr is an expression of a type.
func (m *Maker) expr(t string, measure int) string {
	often := 5
	if isCopied(t) {
		often = 2
	}
	if isCopied(t) && measure <= 0 || m.one(often) && (isCopied(t) || !m.Plain) {
		if s, there := m.place(func(s spot) bool { return s.t == t }); there {
			if !isCopied(t) {
				m.moved = append(m.moved, s.variable())
			}
			return s.text
		}
	}
	if measure > 0 && m.one(4) {
		return m.blocky(t, measure-1)
	}
	return m.made(t, measure-1)
}

// made is an expression that its type says how to make.
func (m *Maker) made(t string, measure int) string {
	inner := strings.TrimPrefix(strings.TrimPrefix(t, "&"), "mut ")
	switch {
	case t == "!":
		return pick(m, "panic()", "({ panic() })", "({ panic(); })", "({ "+m.leave(measure)+" })", "({ "+m.leave(measure)+" })", "({ "+m.leave(measure)+" })")
	case t[0] == '&':
		if m.may("k") && measure > 0 && t == "&mut P" {
			return m.callOf("k", measure)
		}
		if m.may("h") && measure > 0 && t == "&E" {
			return m.callOf("h", measure)
		}
		want := strings.HasPrefix(t, "&mut ")
		if s, there := m.place(func(s spot) bool { return s.t == inner && (s.mut || !want) }); there {
			return "(" + t[:len(t)-len(inner)] + s.text + ")"
		}
		return "({ let mut z = " + m.expr(inner, measure) + "; " + t[:len(t)-len(inner)] + "z })"
	case strings.HasPrefix(t, "Box<"):
		return "Box::new(" + m.expr(t[4:len(t)-1], measure) + ")"
	case t == "L" && m.may("l") && measure > 0 && m.one(3):
		return m.callOf("l", measure)
	case structFields(t) != nil:
		return m.structure(t, measure)
	case enumVariants(t) != nil:
		return m.variant(t, measure)
	case measure > 0 && t != "()":
		return m.sum(t, measure)
	}
	switch t {
	case "i64":
		return pick(m, "0", "1", "2", "3", "42", "9223372036854775807", "read()", "(-1)")
	case "bool":
		return pick(m, "true", "true", "false")
	}
	if m.may("u") && m.one(3) {
		return "u()"
	}
	return pick(m, "()", "print("+m.expr("i64", measure)+")")
}

func (m *Maker) callOf(name string, measure int) string {
	var args []string
	for _, f := range Functions() {
		for _, p := range f.Params {
			if f.Name == name {
				args = append(args, m.expr(p.Type, measure-1))
			}
		}
	}
	return name + "(" + strings.Join(args, ", ") + ")"
}

func (m *Maker) structure(t string, measure int) string {
	l := slices.Clone(structFields(t))
	for k := range l {
		other := m.Choose(k + 1)
		l[k], l[other] = l[other], l[k]
	}
	var texts []string
	for _, f := range l {
		texts = append(texts, f.Name+": "+m.expr(f.Type, measure))
	}
	return "(" + t + " { " + strings.Join(texts, ", ") + " })"
}

func (m *Maker) variant(t string, measure int) string {
	l := enumVariants(t)
	if measure <= 0 && t != "X" {
		l = slices.DeleteFunc(slices.Clone(l), func(v api.Field) bool { return v.Type != "" })
	}
	v := pick(m, l...)
	if v.Type == "" {
		return t + "::" + v.Name
	}
	return t + "::" + v.Name + "(" + m.expr(v.Type, measure) + ")"
}

// sum is a number or a truth made of others, or a call.
func (m *Maker) sum(t string, measure int) string {
	part := func(t string) string { return m.expr(t, measure) }
	if t == "bool" {
		switch m.Choose(4) {
		case 0:
			return "(!" + part(t) + ")"
		case 1:
			return "(" + part(t) + pick(m, " && ", " || ", " == ", " != ") + part(t) + ")"
		case 2:
			if m.may("k") {
				return pick(m, m.callOf("g", measure), m.callOf("k", measure)+".q")
			}
		}
		return "(" + part("i64") + pick(m, " < ", " <= ", " > ", " >= ", " == ", " != ") + part("i64") + ")"
	}
	switch m.Choose(5) {
	case 0:
		return "(-" + part(t) + ")"
	case 1:
		if m.may("f") {
			return m.callOf("f", measure)
		}
	case 2:
		if m.may("k") {
			return m.callOf("k", measure) + ".s.a"
		}
	}
	return "(" + part(t) + pick(m, " + ", " + ", " - ", " - ", " * ", " / ", " % ") + part(t) + ")"
}

// blocky is an if, a match or a block that tells a type: one of its arms does, others may tell nothing ever.
func (m *Maker) blocky(t string, measure int) string {
	sure := m.Choose(3)
	arm := func(k int) func() string {
		return func() string {
			if k != sure && m.one(6) {
				return m.expr("!", measure)
			}
			return m.expr(t, measure)
		}
	}
	cond := func() string { return "if " + m.expr("bool", measure) + " " }
	switch m.Choose(5) {
	case 0:
		sure %= 2
		return "(" + cond() + m.block(arm(0)) + " else " + m.block(arm(1)) + ")"
	case 1:
		return "(" + cond() + m.block(arm(0)) + " else " + cond() + m.block(arm(1)) + " else " + m.block(arm(2)) + ")"
	case 2:
		return "(" + m.block(arm(sure)) + ")"
	}
	subject := pick(m, "i64", "bool", "Y", "Y")
	if !m.Plain {
		subject = pick(m, "", "", "&", "&mut ") + pick(m, "i64", "bool", "E", "E", "O", "L", "X", "X", "S", "Box<i64>")
	}
	var s strings.Builder
	s.WriteString("(match " + m.expr(subject, measure) + " { ")
	for k := range 3 + m.Choose(3) {
		outer := len(m.vars)
		s.WriteString(m.pattern(subject) + " => " + arm(k)() + ", ")
		m.vars = m.vars[:outer]
	}
	return s.String() + pick(m, "_ => "+m.expr(t, 0)+" })", "_ => "+m.expr(t, 0)+" })", "})")
}

// block is a block with some statements, and what it tells, in a scope.
func (m *Maker) block(last func() string) string {
	outer := len(m.vars)
	var s strings.Builder
	s.WriteString("{ ")
	for range m.Choose(3) {
		s.WriteString(m.statement(1) + " ")
	}
	s.WriteString(last() + " }")
	m.vars = m.vars[:outer]
	return s.String()
}

func (m *Maker) pattern(t string) string {
	sign, holds := "", t
	if t[0] == '&' {
		holds = strings.TrimPrefix(t[1:], "mut ")
		sign = t[:len(t)-len(holds)]
	}
	switch {
	case m.one(12):
		return "_"
	case m.one(8):
	case holds == "i64":
		return pick(m, "0", "1", "2", "42", "-1")
	case holds == "bool":
		return pick(m, "true", "false")
	case enumVariants(holds) != nil:
		v := pick(m, enumVariants(holds)...)
		if v.Type == "" {
			return holds + "::" + v.Name
		}
		return holds + "::" + v.Name + "(" + m.pattern(sign+v.Type) + ")"
	}
	return m.declared(t, false)
}
