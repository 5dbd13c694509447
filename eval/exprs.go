package eval

import (
	"math"
	"strconv"
	"strings"

	"patina/api"
)

// value is what an expression tells: new words, which whoever asks may keep.
func (m *machine) value(n int) []word {
	x := m.node(n)
	if isPlace(x.Kind) {
		return m.use(m.place(n))
	}
	m.step()
	switch x.Kind {
	case api.KNum, api.KTruth:
		return []word{number(x.Num)}
	case api.KCall:
		return m.called(x)
	case api.KMake:
		return m.makes(x, m.ofNodes[n])
	case api.KPick:
		return m.picks(x, m.ofNodes[n])
	case api.KBin:
		return []word{m.binary(x)}
	case api.KNeg:
		return []word{m.calculate("-", number(0), m.value(x.Kids[0])[0])}
	case api.KNot:
		return []word{truth(!m.holds(x.Kids[0]))}
	case api.KBorrow:
		return []word{m.place(x.Kids[0]).pointer}
	case api.KNew:
		return []word{pointer{newObject(m.value(x.Kids[0])), 0}}
	case api.KIf:
		return m.either(x)
	case api.KMatch:
		return m.match(x)
	case api.KBlock:
		return m.block(x)
	}
	return nil // KNil
}

// holds tells whether an expression tells true.
func (m *machine) holds(n int) bool { return m.numberOf(m.value(n)[0]) == 1 }

func truth(holds bool) number {
	if holds {
		return 1
	}
	return 0
}

func (m *machine) binary(x *api.Node) word {
	left, right := x.Kids[0], x.Kids[1]
	switch x.Name {
	case "&&", "||":
		if m.holds(left) != (x.Name == "&&") {
			return truth(x.Name == "||")
		}
		return m.value(right)[0]
	}
	a := m.value(left)[0]
	return m.calculate(x.Name, a, m.value(right)[0])
}

// calculate is what a sign makes of two numbers, unless it ends the program.
func (m *machine) calculate(sign string, left, right word) word {
	v, code := calculated(sign, m.numberOf(left), m.numberOf(right))
	if code != api.ExitDone {
		m.exit(code)
	}
	return number(v)
}

// calculated is what a sign makes of two numbers, or with which code it ends a program.
func calculated(sign string, a, b int64) (int64, int) {
	switch sign {
	case "+":
		return a + b, overIf((a+b > a) != (b > 0))
	case "-":
		return a - b, overIf((a-b < a) != (b > 0))
	case "*":
		return a * b, overIf(a != 0 && (a*b/a != b || a == -1 && b == math.MinInt64))
	case "/", "%":
		return divided(sign, a, b)
	}
	return int64(compared(sign, a, b)), api.ExitDone
}

func overIf(over bool) int {
	if over {
		return api.ExitOverflow
	}
	return api.ExitDone
}

func divided(sign string, a, b int64) (int64, int) {
	if b == 0 {
		return 0, api.ExitDivide
	}
	over := overIf(a == math.MinInt64 && b == -1)
	if sign == "/" {
		return a / b, over
	}
	return a % b, over
}

func compared(sign string, a, b int64) number {
	switch sign {
	case "<":
		return truth(a < b)
	case "<=":
		return truth(a <= b)
	case ">":
		return truth(a > b)
	case ">=":
		return truth(a >= b)
	case "==":
		return truth(a == b)
	}
	return truth(a != b)
}

// called is what a call tells, of a function or of what is built in.
func (m *machine) called(x *api.Node) []word {
	var args [][]word
	for _, kid := range x.Kids {
		args = append(args, m.value(kid))
	}
	switch x.Name {
	case "print":
		m.out = append(strconv.AppendInt(m.out, m.numberOf(args[0][0]), 10), '\n')
		return nil
	case "read":
		return []word{m.nextByte()}
	case "panic":
		m.exit(api.ExitPanic)
	}
	return m.call(m.functions[x.Name], args)
}

func (m *machine) nextByte() number {
	if len(m.in) == 0 {
		return -1
	}
	b := m.in[0]
	m.in = m.in[1:]
	return number(b)
}

// makes is a struct's value; its fields are told in any order.
func (m *machine) makes(x *api.Node, s *shape) []word {
	value := make([]word, s.words)
	for _, kid := range x.Kids {
		init := m.node(kid)
		copy(value[s.parts[s.partOf(init.Name)].at:], m.value(init.Kids[0]))
	}
	return value
}

func (m *machine) picks(x *api.Node, s *shape) []word {
	value := make([]word, s.words)
	value[0] = number(s.variantOf(x.Name))
	for _, kid := range x.Kids {
		copy(value[1:], m.value(kid))
	}
	return value
}

// variantOf is the number of the variant of a name with its enum's ahead.
func (s *shape) variantOf(name string) int {
	_, variant, _ := strings.Cut(name, "::")
	return s.partOf(variant)
}

func (m *machine) either(x *api.Node) []word {
	switch {
	case m.holds(x.Kids[0]):
		return m.value(x.Kids[1])
	case len(x.Kids) > 2:
		return m.value(x.Kids[2])
	}
	return nil
}

// block is what a block tells, in a scope of its own.
func (m *machine) block(x *api.Node) []word {
	var told []word
	begun := len(m.begun)
	for k, kid := range x.Kids {
		if x.Num == 1 && k == len(x.Kids)-1 {
			told = m.value(kid)
		} else {
			m.statement(kid)
		}
	}
	m.endScope(begun)
	return told
}
