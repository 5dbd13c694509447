package parse

import (
	"slices"
	"strconv"
	"strings"
	"testing"

	"patina/api"
	"patina/lex"
)

// kindNames are the words for kinds that trees are shown with.
var kindNames = map[int]string{
	api.KCrate: "Crate", api.KFn: "Fn", api.KStruct: "Struct", api.KEnum: "Enum", api.KField: "Field", api.KVariant: "Variant", api.KParam: "Param",
	api.KTyInt: "TyInt", api.KTyBool: "TyBool", api.KTyUnit: "TyUnit", api.KTyName: "TyName", api.KTyRef: "TyRef", api.KTyMut: "TyMut", api.KTyBox: "TyBox",
	api.KBlock: "Block", api.KLet: "Let", api.KDo: "Do", api.KSet: "Set", api.KWhile: "While", api.KReturn: "Return", api.KBreak: "Break", api.KNext: "Next",
	api.KNum: "Num", api.KTruth: "Truth", api.KNil: "Nil", api.KVar: "Var", api.KCall: "Call", api.KMake: "Make", api.KInit: "Init", api.KPick: "Pick", api.KBin: "Bin",
	api.KNeg: "Neg", api.KNot: "Not", api.KGet: "Get", api.KStar: "Star", api.KBorrow: "Borrow", api.KNew: "New", api.KIf: "If", api.KMatch: "Match", api.KArm: "Arm",
	api.KPAny: "PAny", api.KPVar: "PVar", api.KPNum: "PNum", api.KPTruth: "PTruth", api.KPPick: "PPick",
}

// show is a tree as a text: each node's kind, Name and Num, what it is of the source, if one is given, and its kids in brackets.
func show(l []api.Node, source string) string {
	var node func(n int) string
	node = func(n int) string {
		x := l[n]
		s := kindNames[x.Kind]
		if x.Name != "" {
			s += " " + x.Name
		}
		if x.Num != 0 {
			s += " " + strconv.FormatInt(x.Num, 10)
		}
		if source != "" {
			s += " <" + source[x.From:x.To] + ">"
		}
		if len(x.Kids) == 0 {
			return s
		}
		var kids []string
		for _, k := range x.Kids {
			kids = append(kids, node(k))
		}
		return s + "(" + strings.Join(kids, ", ") + ")"
	}
	if len(l) == 0 {
		return ""
	}
	return node(len(l) - 1)
}

func sameNode(a, b api.Node) bool {
	return a.Kind == b.Kind && a.Name == b.Name && a.Num == b.Num && slices.Equal(a.Kids, b.Kids) && a.From == b.From && a.To == b.To
}

// sameShape tells whether two lists of nodes are alike but for places.
func sameShape(a, b []api.Node) bool {
	return slices.EqualFunc(a, b, func(x, y api.Node) bool {
		x.From, x.To, y.From, y.To = 0, 0, 0, 0
		return sameNode(x, y)
	})
}

// forms are the rules of chapter 13 for Name, Num and Kids: N a name, E::V two, S a sign, m a Num of 0 or 1, # any Num; kids by the first letters below, * any number of the one ahead, ? perhaps.
var forms = map[int][2]string{
	api.KCrate: {"", "i*"}, api.KFn: {"N#", "p*tb"}, api.KStruct: {"N", "f*"}, api.KEnum: {"N", "v*"}, api.KField: {"N", "t"}, api.KParam: {"Nm", "t"}, api.KVariant: {"N", "t?"},
	api.KTyInt: {"", ""}, api.KTyBool: {"", ""}, api.KTyUnit: {"", ""}, api.KTyName: {"N", ""}, api.KTyRef: {"", "t"}, api.KTyMut: {"", "t"}, api.KTyBox: {"", "t"},
	api.KBlock: {"m", "s*e?"}, api.KLet: {"Nm", "t?e"}, api.KDo: {"", "e"}, api.KSet: {"", "ee"}, api.KWhile: {"", "eb"}, api.KReturn: {"", "e?"}, api.KBreak: {"", ""}, api.KNext: {"", ""},
	api.KNum: {"#", ""}, api.KTruth: {"m", ""}, api.KNil: {"", ""}, api.KVar: {"N", ""}, api.KCall: {"N", "e*"}, api.KMake: {"N", "n*"}, api.KInit: {"N", "e"}, api.KPick: {"E::V", "e?"},
	api.KBin: {"S", "ee"}, api.KNeg: {"", "e"}, api.KNot: {"", "e"}, api.KGet: {"N", "e"}, api.KStar: {"", "e"}, api.KBorrow: {"m", "e"}, api.KNew: {"", "e"},
	api.KIf: {"", "ebo?"}, api.KMatch: {"", "ea*"}, api.KArm: {"", "qe"},
	api.KPAny: {"", ""}, api.KPVar: {"N", ""}, api.KPNum: {"#", ""}, api.KPTruth: {"m", ""}, api.KPPick: {"E::V", "q?"},
}

// inGroup tells whether a kind is one of those that a letter of forms stands for.
func inGroup(letter byte, kind int) bool {
	switch letter {
	case 'i':
		return kind == api.KFn || kind == api.KStruct || kind == api.KEnum
	case 'p':
		return kind == api.KParam
	case 'f':
		return kind == api.KField
	case 'v':
		return kind == api.KVariant
	case 't':
		return kind >= api.KTyInt && kind <= api.KTyBox
	case 'b':
		return kind == api.KBlock
	case 'o':
		return kind == api.KBlock || kind == api.KIf
	case 's':
		return kind >= api.KLet && kind <= api.KNext
	case 'e':
		return kind == api.KBlock || kind >= api.KNum && kind <= api.KMatch && kind != api.KInit
	case 'n':
		return kind == api.KInit
	case 'a':
		return kind == api.KArm
	case 'q':
		return kind >= api.KPAny && kind <= api.KPPick
	}
	return false
}

// kidsRight tells whether kinds are those that a form asks for.
func kidsRight(form string, kinds []int) bool {
	if form == "" {
		return len(kinds) == 0
	}
	fits := len(kinds) > 0 && inGroup(form[0], kinds[0])
	if len(form) > 1 && form[1] == '*' {
		return fits && kidsRight(form, kinds[1:]) || kidsRight(form[2:], kinds)
	}
	if len(form) > 1 && form[1] == '?' {
		return fits && kidsRight(form[2:], kinds[1:]) || kidsRight(form[2:], kinds)
	}
	return fits && kidsRight(form[1:], kinds[1:])
}

func nameRight(form, name string) bool {
	switch {
	case strings.Contains(form, "N"):
		return lex.Name(name)
	case strings.Contains(form, "E::V"):
		a, b, ok := strings.Cut(name, "::")
		return ok && lex.Name(a) && lex.Name(b)
	case strings.Contains(form, "S"):
		return strings.Contains(" || && == != < > <= >= + - * / % ", " "+name+" ")
	}
	return name == ""
}

// wantRight holds a tree that was told to 12.3: chapter 13's rules, places within one another, and the order of the list.
func wantRight(t *testing.T, source string, l []api.Node) {
	t.Helper()
	if len(l) == 0 || len(l) > api.MaxNodes {
		t.Fatalf("%q: %d nodes", source, len(l))
	}
	below := make([]int, len(l)) // how many nodes are below each one, with it
	depths := make([]int, len(l))
	for n, x := range l {
		form, ok := forms[x.Kind]
		var kinds []int
		below[n] = 1
		for _, k := range x.Kids {
			kinds = append(kinds, l[k].Kind)
			below[n] += below[k]
		}
		at := n - below[n] + 1
		for _, k := range x.Kids { // each with all below it right behind the one ahead
			at += below[k]
			if at-1 != k {
				t.Fatalf("%q: node %d is %v", source, n, x)
			}
			if y := l[k]; y.From < x.From || y.To > x.To {
				t.Fatalf("%q: %v is not within %v", source, y, x)
			}
		}
		if !ok || !kidsRight(form[1], kinds) || !nameRight(form[0], x.Name) || x.From < 0 || x.From > x.To || x.To > len(source) {
			t.Fatalf("%q: node %d is %v", source, n, x)
		}
		numRight := x.Num == 0 || strings.Contains(form[0], "#") || x.Num == 1 && strings.Contains(form[0], "m")
		if x.Kind == api.KFn {
			numRight = x.Num == int64(len(x.Kids)-2)
		}
		if x.Kind == api.KBlock {
			numRight = x.Num == 1 == (len(kinds) > 0 && inGroup('e', kinds[len(kinds)-1]))
		}
		if !numRight || x.Kind == api.KNum && x.Num < 0 {
			t.Fatalf("%q: node %d is %v", source, n, x)
		}
	}
	for n := len(l) - 1; n >= 0; n-- {
		for _, k := range l[n].Kids {
			depths[k] = depths[n] + 1
		}
		if depths[n] > 4*api.MaxDeep {
			t.Fatalf("%q: node %d stands too deep", source, n)
		}
	}
	if below[len(l)-1] != len(l) {
		t.Fatalf("%q: %d nodes below the last one of %d", source, below[len(l)-1], len(l))
	}
}

// wantAnswer holds what was told of any source to 12.3, R4 and P1.
func wantAnswer(t *testing.T, source string, tree api.Tree, d api.Diag) {
	t.Helper()
	if d.Code == api.OK {
		if d != (api.Diag{}) {
			t.Fatalf("%q: %v", source, d)
		}
		wantRight(t, source, tree.Nodes)
		return
	}
	if len(tree.Nodes) != 0 || d.From < 0 || d.From > d.To || d.To > len(source) {
		t.Fatalf("%q: %d nodes, %v", source, len(tree.Nodes), d)
	}
}
