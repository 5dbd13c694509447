package sourcetest

import (
	"strings"

	"patina/api"
)

// Types are the types that made sources have; values of X lie in one another's words.
const Types = "struct S { a: i64, b: Box<i64> } struct P { s: S, q: bool, l: Box<L> } struct N { u: () } " +
	"enum E { A, B(i64), C(S) } enum L { End, More(Box<L>) } enum O { W(E), T(bool), Z } enum X { I(i64), K(Box<i64>), F(E), Q(bool), M(Box<S>) } "

// plainTypes are those of sources without Boxes.
const plainTypes = "struct D { x: i64, y: bool } enum Y { A, B(i64), C(bool), F(D) } "

// Functions are those of made sources, main last; each calls those ahead of it, and now and then itself.
func Functions() []api.Fn {
	p := func(name, t string) api.Field { return api.Field{Name: name, Type: t} }
	return []api.Fn{
		{Name: "f", Params: []api.Field{p("x", "i64")}, Muts: []bool{true}, Ret: "i64"},
		{Name: "g", Params: []api.Field{p("s", "&mut S"), p("e", "E")}, Muts: []bool{false, true}, Ret: "bool"},
		{Name: "h", Params: []api.Field{p("e", "&E"), p("o", "O")}, Muts: []bool{true, true}, Ret: "&E"},
		{Name: "k", Params: []api.Field{p("b", "Box<S>"), p("m", "&mut P"), p("n", "N")}, Muts: []bool{true, false, false}, Ret: "&mut P"},
		{Name: "l", Params: []api.Field{p("x", "L"), p("y", "&P"), p("z", "&mut X")}, Muts: []bool{true, false, false}, Ret: "L"},
		{Name: "u", Ret: "()"},
		{Name: "two", Params: []api.Field{p("x", "i64"), p("y", "i64")}, Muts: []bool{false, true}, Ret: "i64"},
		{Name: "main", Ret: "()"},
	}
}

func structFields(t string) []api.Field {
	return map[string][]api.Field{
		"S": {{Name: "a", Type: "i64"}, {Name: "b", Type: "Box<i64>"}},
		"P": {{Name: "s", Type: "S"}, {Name: "q", Type: "bool"}, {Name: "l", Type: "Box<L>"}},
		"N": {{Name: "u", Type: "()"}},
		"D": {{Name: "x", Type: "i64"}, {Name: "y", Type: "bool"}},
	}[t]
}

func enumVariants(t string) []api.Field {
	return map[string][]api.Field{
		"E": {{Name: "A"}, {Name: "B", Type: "i64"}, {Name: "C", Type: "S"}},
		"L": {{Name: "End"}, {Name: "More", Type: "Box<L>"}},
		"O": {{Name: "W", Type: "E"}, {Name: "T", Type: "bool"}, {Name: "Z"}},
		"Y": {{Name: "A"}, {Name: "B", Type: "i64"}, {Name: "C", Type: "bool"}, {Name: "F", Type: "D"}},
		"X": {{Name: "I", Type: "i64"}, {Name: "K", Type: "Box<i64>"}, {Name: "F", Type: "E"}, {Name: "Q", Type: "bool"}, {Name: "M", Type: "Box<S>"}},
	}[t]
}

func isCopied(t string) bool {
	return t == "i64" || t == "bool" || t == "()" || t[0] == '&' && !strings.HasPrefix(t, "&mut ")
}
