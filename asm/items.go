package asm

import (
	"patina/api"
	"patina/rv"
)

// greatestSpace is how many bytes a space may have.
const greatestSpace = 1 << 20

// labelsOf tells at which of all items each label stands, the text's ahead of the data's; or the first item that is not right, or whose label was there.
func labelsOf(text, data []api.Item) (map[string]int, api.Errno, int) {
	labels := map[string]int{}
	for k := range len(text) + len(data) {
		x, inText := one(text, data, k)
		if e := wrong(x, inText); e != api.OK {
			return nil, e, k
		}
		if x.Kind != api.ItLabel {
			continue
		}
		if _, there := labels[x.Name]; there {
			return nil, api.ErrTwice, k
		}
		labels[x.Name] = k
	}
	return labels, api.OK, 0
}

// one is one of all items, and whether it is the text's.
func one(text, data []api.Item, k int) (api.Item, bool) {
	if k < len(text) {
		return text[k], true
	}
	return data[k-len(text)], false
}

// goalsOf tells of each of the text's items at which of all items the label stands that it asks for; none, if it asks for none. Or the first one whose label is not there.
func goalsOf(text []api.Item, labels map[string]int) ([]int, api.Errno, int) {
	goals := make([]int, len(text))
	for k, x := range text {
		goals[k] = none
		if !asks(x.Kind) {
			continue
		}
		at, there := labels[x.Name]
		if !there {
			return nil, api.ErrLabel, k
		}
		goals[k] = at
	}
	return goals, api.OK, 0
}

// asks tells whether an item's name is that of a label elsewhere.
func asks(kind int) bool { return kind == api.ItLa || greatest(kind) > 0 }

// wrong is the error of an item that is not right in a text, or in a data.
func wrong(x api.Item, inText bool) api.Errno {
	switch {
	case fieldsRight(x) && standsRight(x, inText):
		return api.OK
	case x.Kind == api.ItInstr:
		return api.ErrInstr
	}
	return api.ErrArg
}

// standsRight tells whether an item whose fields are right may stand in a text, or in a data.
func standsRight(x api.Item, inText bool) bool {
	switch x.Kind {
	case api.ItLabel, api.ItWord:
		return true
	case api.ItSpace:
		return !inText || x.I.Imm%4 == 0
	}
	return inText
}

// fieldsRight tells whether an item's fields are what its kind allows: those that it names in their ranges, all others 0 or empty.
func fieldsRight(x api.Item) bool {
	rest, named, right := x.I, false, true
	switch x.Kind {
	case api.ItInstr:
		rest, right = api.Instr{}, rv.Check(x.I) == api.OK
	case api.ItLi:
		rest.Rd, rest.Imm, right = 0, 0, register(x.I.Rd)
	case api.ItWord:
		rest.Imm = 0
	case api.ItSpace:
		rest.Imm, right = 0, x.I.Imm >= 0 && x.I.Imm <= greatestSpace
	case api.ItBranch:
		rest.Op, rest.Rs1, rest.Rs2 = 0, 0, 0
		named, right = true, x.I.Op >= api.OpBeq && x.I.Op <= api.OpBgeu && register(x.I.Rs1) && register(x.I.Rs2)
	case api.ItLa, api.ItCall:
		rest.Rd, right = 0, x.I.Rd != 0 && register(x.I.Rd)
		fallthrough
	case api.ItLabel, api.ItJump:
		named = true
	default:
		return false
	}
	return right && rest == (api.Instr{}) && nameRight(x.Name, named)
}

func register(r int) bool { return r >= 0 && r <= 31 }

func nameRight(name string, named bool) bool {
	if !named {
		return name == ""
	}
	return len(name) > 0 && len(name) <= MaxLabel
}
