package cover

import (
	"slices"
	"strings"
	"testing"

	"patina/api"
	"patina/check"
	"patina/parse"
)

const kinds = "struct S { a: i64 } struct N { } enum E { A, B(bool) } enum F { X(E), Y, Z(i64), W(Box<E>) } enum G { P(()), Q(S), R(F) } enum One { It } enum Two { L(One), R(One) } enum L { End, More(Box<L>) } struct R { r: Box<R> } enum M { C(Box<M>) } "

// typedOf is the typed tree of a source that is right.
func typedOf(t *testing.T, source string) api.Typed {
	t.Helper()
	x, d := parse.Parse(source)
	if d.Code != api.OK {
		t.Fatalf("%v at %q of %s", d, source[d.From:d.To], source)
	}
	u, d := check.Of(x)
	if d.Code != api.OK {
		t.Fatalf("%v at %q of %s", d, source[d.From:d.To], source)
	}
	return u
}

// nodesOf are the nodes of a kind, in their order.
func nodesOf(u api.Typed, kind int) []int {
	var l []int
	for n, x := range u.Tree.Nodes {
		if x.Kind == kind {
			l = append(l, n)
		}
	}
	return l
}

// matched is a source with one match of a type, whose arms have these patterns.
func matched(of string, patterns ...string) string {
	arms := ""
	for _, p := range patterns {
		arms += p + " => { }, "
	}
	return kinds + "fn f(s: " + of + ") { match s { " + arms + "} } fn main() { }"
}

// patternsIn are the patterns of a list with / between.
func patternsIn(list string) []string {
	return strings.FieldsFunc(list, func(r rune) bool { return r == '/' })
}

// 17.1: what is missing, letter by letter.
func TestMissing(t *testing.T) {
	for _, c := range []struct{ of, patterns, missing string }{
		{"i64", "", "_"}, {"i64", "1/2", "_"}, {"i64", "-1/0/1/9223372036854775807", "_"}, {"i64", "1/_", ""}, {"i64", "x", ""}, {"i64", "_", ""},
		{"bool", "", "false"}, {"bool", "true", "false"}, {"bool", "false", "true"}, {"bool", "true/false", ""}, {"bool", "false/true", ""}, {"bool", "true/_", ""}, {"bool", "x", ""}, {"bool", "true/true", "false"},
		{"()", "", "_"}, {"()", "_", ""}, {"()", "x", ""},
		{"S", "", "_"}, {"S", "_", ""}, {"S", "x", ""}, {"N", "", "_"}, {"N", "x", ""},
		{"Box<E>", "", "_"}, {"Box<E>", "x", ""}, {"Box<bool>", "_", ""}, {"Box<bool>", "", "_"},
		{"E", "", "E::A"}, {"E", "E::A", "E::B(_)"}, {"E", "E::B(_)", "E::A"}, {"E", "E::B(x)", "E::A"}, {"E", "E::B(true)", "E::A"}, {"E", "E::A/E::B(true)", "E::B(false)"}, {"E", "E::A/E::B(false)", "E::B(true)"}, {"E", "E::A/E::B(x)", ""}, {"E", "E::B(_)/E::A", ""}, {"E", "E::A/E::B(true)/E::B(false)", ""}, {"E", "E::A/_", ""}, {"E", "x", ""},
		{"F", "", "F::X(_)"}, {"F", "F::Y", "F::X(_)"}, {"F", "F::X(E::A)", "F::X(E::B(_))"}, {"F", "F::X(E::B(true))", "F::X(E::A)"}, {"F", "F::X(E::A)/F::X(E::B(true))", "F::X(E::B(false))"}, {"F", "F::X(E::A)/F::X(E::B(_))", "F::Y"}, {"F", "F::X(_)/F::Y", "F::Z(_)"}, {"F", "F::X(_)/F::Y/F::Z(1)", "F::Z(_)"}, {"F", "F::X(_)/F::Y/F::Z(1)/F::Z(x)", "F::W(_)"}, {"F", "F::X(_)/F::Y/F::Z(_)/F::W(b)", ""}, {"F", "F::X(E::B(false))/F::Y/F::X(E::B(true))/F::X(E::A)/F::W(_)/F::Z(_)", ""},
		{"F", "F::Z(_)/F::Y", "F::X(_)"}, {"F", "F::X(E::B(true))/F::X(E::B(false))/F::Y/F::Z(_)/F::W(_)", "F::X(E::A)"}, {"F", "F::X(E::A)/F::X(x)/F::Z(_)", "F::Y"},
		{"G", "", "G::P(_)"}, {"G", "G::P(_)", "G::Q(_)"}, {"G", "G::P(x)/G::Q(y)", "G::R(_)"}, {"G", "G::P(x)/G::Q(y)/G::R(F::X(E::B(true)))", "G::R(F::X(E::A))"}, {"G", "G::P(x)/G::Q(y)/G::R(F::X(E::B(true)))/G::R(F::X(E::A))", "G::R(F::X(E::B(false)))"}, {"G", "G::P(x)/G::Q(y)/G::R(F::X(_))/G::R(F::Y)/G::R(F::Z(-1))", "G::R(F::Z(_))"}, {"G", "G::R(_)/G::P(_)/G::Q(_)", ""},
		{"One", "", "One::It"}, {"One", "One::It", ""}, {"Two", "Two::L(One::It)", "Two::R(_)"}, {"Two", "Two::L(One::It)/Two::R(One::It)", ""},
		{"L", "L::End", "L::More(_)"}, {"L", "L::More(_)", "L::End"}, {"L", "L::More(x)/L::End", ""},
		{"R", "", "_"}, {"R", "r", ""}, {"M", "", "M::C(_)"}, {"M", "M::C(_)", ""},
	} {
		for _, sign := range []string{"", "&", "&mut "} {
			u := typedOf(t, matched(sign+c.of, patternsIn(c.patterns)...))
			text, some, e := Missing(u, nodesOf(u, api.KMatch)[0])
			if text != c.missing || some != (c.missing != "") || e != api.OK {
				t.Errorf("%s%s with %s: %q %v %v, not %q", sign, c.of, c.patterns, text, some, e, c.missing)
			}
		}
	}
}

// 17.1: which arms are never taken.
func TestNever(t *testing.T) {
	for _, c := range []struct {
		of, patterns string
		never        []int
	}{
		{"i64", "", nil}, {"i64", "1/2/1/x", []int{2}}, {"i64", "1/-1/1/-1/2", []int{2, 3}}, {"i64", "_/1", []int{1}}, {"i64", "x/1/_/y", []int{1, 2, 3}}, {"i64", "1/_/1/2", []int{2, 3}}, {"i64", "1/2/_", nil}, {"i64", "0/_/_", []int{2}},
		{"bool", "true/false", nil}, {"bool", "true/false/_", []int{2}}, {"bool", "false/true/x/true", []int{2, 3}}, {"bool", "true/true/false", []int{1}}, {"bool", "true/_/false", []int{2}}, {"bool", "false/x", nil}, {"bool", "true/true", []int{1}},
		{"()", "_", nil}, {"()", "x/_", []int{1}}, {"S", "x", nil}, {"S", "_/x", []int{1}}, {"Box<bool>", "b/c", []int{1}}, {"N", "x/y/z", []int{1, 2}},
		{"E", "_/E::A", []int{1}}, {"E", "E::A/E::B(_)/_", []int{2}}, {"E", "E::A/_", nil}, {"E", "E::A/E::B(true)/_", nil}, {"E", "E::A/E::B(true)/E::B(false)/x", []int{3}}, {"E", "E::B(true)/E::B(true)/y", []int{1}}, {"E", "E::B(x)/E::B(true)/E::A", []int{1}}, {"E", "E::B(true)/E::B(x)/E::A", nil}, {"E", "E::B(true)/E::B(false)/E::B(x)/E::A", []int{2}}, {"E", "E::A/E::A/E::B(_)", []int{1}}, {"E", "E::B(_)/E::A/E::A", []int{2}}, {"E", "x/E::B(true)/E::A/_", []int{1, 2, 3}},
		{"F", "F::X(E::A)/F::X(E::B(_))/F::X(_)/F::Y", []int{2}}, {"F", "F::X(E::A)/F::X(E::B(true))/F::X(e)/F::X(E::B(false))", []int{3}}, {"F", "F::X(E::A)/F::X(E::A)/F::X(E::B(true))/F::X(E::B(true))", []int{1, 3}}, {"F", "F::Z(1)/F::Z(2)/F::Z(1)/F::Z(_)/F::Z(3)", []int{2, 4}}, {"F", "F::W(_)/F::W(b)", []int{1}}, {"F", "F::Y/F::X(_)/F::Z(_)/F::W(_)/_", []int{4}}, {"F", "F::Y/F::X(_)/F::Z(_)/_/F::W(_)", []int{4}}, {"F", "F::Y/F::X(_)/F::Z(0)/F::W(_)/_", nil},
		{"G", "G::R(F::X(E::B(true)))/G::R(F::X(E::B(true)))/G::R(F::X(E::B(false)))/G::R(F::X(E::B(_)))/G::R(F::X(_))/G::R(F::X(E::A))", []int{1, 3, 5}}, {"G", "G::R(_)/G::R(F::Y)/G::P(_)/G::P(x)", []int{1, 3}},
		{"One", "One::It/_", []int{1}}, {"One", "_/One::It", []int{1}}, {"Two", "Two::L(One::It)/Two::L(_)/Two::R(x)/_", []int{1, 3}},
		{"R", "x", nil}, {"R", "_/x", []int{1}}, {"M", "_", nil}, {"M", "M::C(_)", nil}, {"M", "M::C(x)/_/M::C(y)", []int{1, 2}},
	} {
		for _, sign := range []string{"", "&", "&mut "} {
			u := typedOf(t, matched(sign+c.of, patternsIn(c.patterns)...))
			never, e := Never(u, nodesOf(u, api.KMatch)[0])
			if !slices.Equal(never, c.never) || e != api.OK {
				t.Errorf("%s%s with %s: %v %v, not %v", sign, c.of, c.patterns, never, e, c.never)
			}
		}
	}
}

// 17.1: Refutable of each pattern of a source, those within others too, from the first one that is written on.
func TestRefutable(t *testing.T) {
	for _, c := range []struct{ of, pattern, refutable string }{
		{"i64", "_", "n"}, {"i64", "x", "n"}, {"i64", "1", "y"}, {"i64", "-9223372036854775807", "y"}, {"bool", "_", "n"}, {"bool", "x", "n"}, {"bool", "true", "y"}, {"bool", "false", "y"}, {"()", "x", "n"}, {"S", "_", "n"}, {"Box<bool>", "x", "n"}, {"N", "x", "n"},
		{"E", "E::A", "y"}, {"E", "E::B(_)", "yn"}, {"E", "E::B(true)", "yy"}, {"E", "x", "n"}, {"One", "One::It", "n"}, {"Two", "Two::L(One::It)", "yn"}, {"G", "G::R(F::X(E::B(x)))", "yyyn"}, {"L", "L::More(x)", "yn"}, {"R", "_", "n"}, {"M", "M::C(x)", "nn"},
		{"Only", "Only::It(x)", "nn"}, {"Only", "Only::It(true)", "yy"}, {"Only", "_", "n"},
	} {
		for _, sign := range []string{"", "&", "&mut "} {
			u := typedOf(t, "enum Only { It(bool) } "+matched(sign+c.of, c.pattern))
			n := u.Tree.Nodes[nodesOf(u, api.KArm)[0]].Kids[0]
			for _, want := range c.refutable {
				got, e := Refutable(u, n)
				if got != (want == 'y') || e != api.OK {
					t.Errorf("%s%s, %s, node %d: %v %v", sign, c.of, c.pattern, n, got, e)
				}
				if kids := u.Tree.Nodes[n].Kids; len(kids) > 0 {
					n = kids[0]
				}
			}
		}
	}
}

// wantCheck holds Check to a diagnostic at what is marked by [[ and ]].
func wantCheck(t *testing.T, source string, code api.Errno) {
	t.Helper()
	from := max(strings.Index(source, "[["), 0)
	source = strings.Replace(source, "[[", "", 1)
	to := max(strings.Index(source, "]]"), 0)
	source = strings.Replace(source, "]]", "", 1)
	d, e := Check(typedOf(t, kinds+source))
	if code != api.OK {
		from, to = from+len(kinds), to+len(kinds)
	}
	if d != (api.Diag{Code: code, From: from, To: to}) || e != api.OK {
		t.Errorf("%v %v, not %v %d %d: %s", d, e, code, from, to, source)
	}
}

// 17.2: the first match in the order of nodes that is wrong, and how.
func TestCheck(t *testing.T) {
	for _, c := range []struct {
		source string
		code   api.Errno
	}{
		{"fn main() { }", api.OK},
		{"fn f(e: E) -> i64 { match e { E::A => 1, E::B(_) => 2 } } fn main() { }", api.OK},
		{"fn f(e: E) -> i64 { [[match e { E::A => 1 }]] } fn main() { }", api.ErrMissing},
		{"fn f(e: E) -> i64 { match e { E::A => 1, E::B(_) => 2, [[_]] => 3 } } fn main() { }", api.ErrNever},
		{"fn f(e: E) -> i64 { match e { E::A => 1, [[E::A]] => 3, E::B(_) => 2, _ => 4 } } fn main() { }", api.ErrNever},
		{"fn f(e: E) -> i64 { match e { x => 1, [[E::B(true)]] => 3 } } fn main() { }", api.ErrNever},
		// missing ahead of never, in one match
		{"fn f(e: E) -> i64 { [[match e { E::A => 1, E::A => 2 }]] } fn main() { }", api.ErrMissing},
		// without arms
		{"fn main() { [[match 1 { }]]; }", api.ErrMissing}, {"fn main() { [[match true { }]]; }", api.ErrMissing}, {"fn f(e: E) { [[match e { }]]; } fn main() { }", api.ErrMissing}, {"fn f(e: &mut E) { [[match e { }]]; } fn main() { }", api.ErrMissing},
		// one within another: the inner one's node stands ahead, as arm and as subject
		{"fn main() { match 1 { 1 => [[match true { true => 1 }]], 2 => 3 }; }", api.ErrMissing},
		{"fn main() { match [[match 1 { 1 => true }]] { true => 3 }; }", api.ErrMissing},
		{"fn main() { [[match 1 { 1 => match true { true => 1, _ => 2 }, 2 => 3 }]]; }", api.ErrMissing},
		{"fn main() { match 1 { 1 => match true { _ => 1, [[true]] => 2 }, 2 => 3 }; }", api.ErrNever},
		{"fn main() { match 1 { _ => [[match true { true => 1 }]], 2 => 3 }; }", api.ErrMissing},
		{"fn main() { match 1 { _ => match true { x => 1 }, [[2]] => 3 }; }", api.ErrNever},
		// of two behind each other, and in two functions, the first
		{"fn main() { match 1 { _ => 1, [[_]] => 2 }; match 2 { 2 => 1 }; }", api.ErrNever},
		{"fn f() { [[match 2 { 2 => 1 }]]; } fn main() { match 1 { _ => 1, _ => 2 }; }", api.ErrMissing},
		// in all kinds of places
		{"fn main() { while [[match 1 { 1 => true }]] { } }", api.ErrMissing}, {"fn main() { let x = Box::new([[match 1 { 1 => true }]]); }", api.ErrMissing}, {"fn main() { if true { print([[match 1 { 1 => 2 }]]); } }", api.ErrMissing}, {"fn main() { return [[match 1 { 1 => () }]]; }", api.ErrMissing},
	} {
		wantCheck(t, c.source, c.code)
	}
}

// The order of nodes is the tree's, not the source's: the same functions, the other way round.
func TestCheckOrder(t *testing.T) {
	u := typedOf(t, "fn f() { match 2 { 2 => 1 }; } fn main() { match 1 { _ => 1, _ => 2 }; }")
	nodes := u.Tree.Nodes
	split := u.Items.Fns[0].Node + 1
	turned := slices.Concat(nodes[split:len(nodes)-1], nodes[:split])
	moved := func(n int) int {
		if n >= split {
			return n - split
		}
		return n + len(nodes) - 1 - split
	}
	turned = append(turned, nodes[len(nodes)-1])
	for k := range turned {
		kids := slices.Clone(turned[k].Kids)
		for i := range kids {
			kids[i] = moved(kids[i])
		}
		turned[k].Kids = kids
	}
	v, d := check.Of(api.Tree{Nodes: turned})
	if d.Code != api.OK {
		t.Fatal(d)
	}
	if d, _ := Check(u); d.Code != api.ErrMissing {
		t.Error(d)
	}
	if d, _ := Check(v); d.Code != api.ErrNever {
		t.Error(d)
	}
}

// R1, R4: errors in their order, and nothing beside them.
func TestErrors(t *testing.T) {
	u := typedOf(t, matched("E", "E::A", "E::A"))
	broken := u
	broken.Types = slices.Clone(u.Types)
	broken.Types[0] = "bool"
	bad := []api.Typed{{}, broken, {Tree: u.Tree}, {Tree: u.Tree, Items: u.Items, Types: u.Types, Vars: u.Vars}}
	for _, b := range bad {
		if d, e := Check(b); d != (api.Diag{}) || e != api.ErrTyped {
			t.Error(d, e)
		}
		for _, n := range []int{-1, 0, nodesOf(u, api.KMatch)[0], len(u.Tree.Nodes), 1 << 40} {
			wantErrors(t, b, n, api.ErrTyped, api.ErrTyped)
		}
	}
	for _, n := range []int{-1, -1 << 62, len(u.Tree.Nodes), 1<<63 - 1} {
		wantErrors(t, u, n, api.ErrNone, api.ErrNone)
	}
	for n, x := range u.Tree.Nodes {
		ofMatch, ofPattern := api.ErrArg, api.ErrArg
		switch x.Kind {
		case api.KMatch:
			ofMatch = api.OK
		case api.KPAny, api.KPVar, api.KPNum, api.KPTruth, api.KPPick:
			ofPattern = api.OK
		}
		wantErrors(t, u, n, ofMatch, ofPattern)
	}
}

func wantErrors(t *testing.T, u api.Typed, n int, ofMatch, ofPattern api.Errno) {
	t.Helper()
	text, some, e := Missing(u, n)
	if e != ofMatch || e != api.OK && (text != "" || some) {
		t.Errorf("Missing of %d: %q %v %v", n, text, some, e)
	}
	never, e := Never(u, n)
	if e != ofMatch || e != api.OK && len(never) > 0 {
		t.Errorf("Never of %d: %v %v", n, never, e)
	}
	refutable, e := Refutable(u, n)
	if e != ofPattern || e != api.OK && refutable {
		t.Errorf("Refutable of %d: %v %v", n, refutable, e)
	}
}

// R3: what is handed in stays, and answers are new memory.
func TestMemory(t *testing.T) {
	source := matched("E", "_", "E::A", "E::B(true)", "x")
	u, same := typedOf(t, source), typedOf(t, source)
	n := nodesOf(u, api.KMatch)[0]
	first, _ := Never(u, n)
	second, _ := Never(u, n)
	for k := range first[:cap(first)] {
		first[:cap(first)][k] = 99
	}
	Missing(u, n)
	Check(u)
	Refutable(u, nodesOf(u, api.KPPick)[0])
	if !slices.Equal(second, []int{1, 2, 3}) || !check.Same(u, same) {
		t.Error(second)
	}
	if third, _ := Never(u, n); !slices.Equal(third, second) {
		t.Error(third)
	}
}
