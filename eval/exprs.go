package eval

import (
	"strings"

	"patina/api"
	"patina/store"
)

// value is what an expression tells: new words, which whoever asks may keep.
func (m *machine) value(n int) []store.Word {
	x := m.node(n)
	if isPlace(x.Kind) {
		return m.Use(m.place(n))
	}
	m.Step()
	switch x.Kind {
	case api.KNum, api.KTruth:
		return []store.Word{store.Number(x.Num)}
	case api.KCall:
		return m.called(x)
	case api.KMake:
		return m.makes(x, m.ofNodes[n])
	case api.KPick:
		return m.picks(x, m.ofNodes[n])
	case api.KBin:
		return []store.Word{m.binary(x)}
	case api.KNeg:
		return []store.Word{m.Negate(m.value(x.Kids[0])[0])}
	case api.KNot:
		return []store.Word{store.Truth(!m.holds(x.Kids[0]))}
	case api.KBorrow:
		return []store.Word{m.place(x.Kids[0]).Pointer}
	case api.KNew:
		return []store.Word{store.Pointer{To: store.NewObject(m.value(x.Kids[0]))}}
	case api.KIf:
		return m.either(x)
	case api.KMatch:
		return m.match(x)
	case api.KBlock:
		return m.block(x)
	}
	return nil // KNil
}

// holds tells whether an expression tells true.
func (m *machine) holds(n int) bool { return m.Holds(m.value(n)[0]) }

func (m *machine) binary(x *api.Node) store.Word {
	left, right := x.Kids[0], x.Kids[1]
	switch x.Name {
	case "&&", "||":
		if m.holds(left) != (x.Name == "&&") {
			return store.Truth(x.Name == "||")
		}
		return m.value(right)[0]
	}
	a := m.value(left)[0]
	return m.Calculate(x.Name, a, m.value(right)[0])
}

// called is what a call tells, of a function or of what is built in.
func (m *machine) called(x *api.Node) []store.Word {
	var args [][]store.Word
	for _, kid := range x.Kids {
		args = append(args, m.value(kid))
	}
	switch x.Name {
	case "print":
		m.Print(args[0][0])
		return nil
	case "read":
		return []store.Word{m.NextByte()}
	case "panic":
		m.Exit(api.ExitPanic)
	}
	return m.call(m.functions[x.Name], args)
}

// makes is a struct's value; its fields are told in any order.
func (m *machine) makes(x *api.Node, s *store.Shape) []store.Word {
	value := make([]store.Word, s.Words)
	for _, kid := range x.Kids {
		init := m.node(kid)
		copy(value[s.Parts[s.PartOf(init.Name)].At:], m.value(init.Kids[0]))
	}
	return value
}

func (m *machine) picks(x *api.Node, s *store.Shape) []store.Word {
	value := make([]store.Word, s.Words)
	value[0] = store.Number(variantOf(s, x.Name))
	for _, kid := range x.Kids {
		copy(value[1:], m.value(kid))
	}
	return value
}

// variantOf is the number of the variant of a name with its enum's ahead.
func variantOf(s *store.Shape, name string) int {
	_, variant, _ := strings.Cut(name, "::")
	return s.PartOf(variant)
}

func (m *machine) either(x *api.Node) []store.Word {
	switch {
	case m.holds(x.Kids[0]):
		return m.value(x.Kids[1])
	case len(x.Kids) > 2:
		return m.value(x.Kids[2])
	}
	return nil
}

// block is what a block tells, in a scope of its own.
func (m *machine) block(x *api.Node) []store.Word {
	var told []store.Word
	begun := len(m.begun)
	for k, kid := range x.Kids {
		if x.Num == 1 && k == len(x.Kids)-1 {
			told = m.value(kid)
		} else {
			m.statement(kid)
		}
	}
	m.endScope(begun)
	return told
}
