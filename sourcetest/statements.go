package sourcetest

import (
	"strconv"
)

// leave is a statement that never goes on.
func (m *Maker) leave(measure int) string {
	if m.loops > 0 && m.one(2) {
		return pick(m, "break;", "continue;")
	}
	if m.ret == "()" && m.one(2) {
		return "return;"
	}
	return "return " + m.expr(m.ret, measure) + ";"
}

func (m *Maker) let(t string, measure int) string {
	said, mut := "", m.Choose(3) > 0
	if m.one(3) {
		said = ": " + t
	}
	value := m.expr(t, measure)
	return "let " + mutWord(mut) + m.declared(t, mut) + said + " = " + value + ";"
}

func (m *Maker) statement(measure int) string {
	switch m.Choose(12) {
	case 0, 1, 2:
		return m.let(m.aType(), measure)
	case 3, 4:
		if s, there := m.place(func(s spot) bool { return s.mut }); there {
			return s.text + " = " + m.expr(s.t, measure) + ";"
		}
	case 5:
		return m.loop(measure)
	case 6:
		if measure > 0 {
			return "if " + m.expr("bool", measure-1) + " " + m.block(func() string { return m.last(measure - 1) })
		}
	case 7:
		if m.one(8) {
			return m.leave(measure)
		}
	case 8, 9, 10:
		return "print(" + m.expr("i64", measure) + ");"
	}
	return m.expr(pick(m, m.aType(), m.aType(), m.aType(), "()", "i64"), measure) + ";"
}

// last is what a block that tells nothing ends with.
func (m *Maker) last(measure int) string {
	switch m.Choose(6) {
	case 0, 1:
		return m.statement(measure)
	case 2:
		return m.expr("()", measure)
	case 3, 4:
		return m.leave(measure)
	}
	return ""
}

// loop is a loop that mostly ends after some rounds.
func (m *Maker) loop(measure int) string {
	m.count++
	i := "c" + strconv.Itoa(m.count)
	cond, step := "("+i+" < "+strconv.Itoa(m.Choose(4))+")", i+" = "+i+" + 1;"
	if m.one(4) {
		cond += pick(m, " && ", " || ") + m.expr("bool", measure)
	}
	if m.one(10) {
		cond = "({ " + step + " " + m.expr("bool", measure) + " }) && " + cond
	}
	m.loops++
	body := m.block(func() string { return m.last(measure) })
	m.loops--
	return "let mut " + i + " = 0; while " + cond + " { " + step + " " + body + " }"
}
