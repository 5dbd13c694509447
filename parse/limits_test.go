package parse

import (
	"slices"
	"strings"
	"testing"

	"patina/api"
)

func wantError(t *testing.T, what string, read func(string) (api.Tree, api.Diag), source string, want api.Diag) {
	t.Helper()
	if tree, d := read(source); d != want || len(tree.Nodes) != 0 {
		t.Errorf("%s: %d nodes, %v, not %v", what, len(tree.Nodes), d, want)
	}
}

func wantTaken(t *testing.T, what string, read func(string) (api.Tree, api.Diag), source string) api.Tree {
	t.Helper()
	tree, d := read(source)
	if d != (api.Diag{}) {
		t.Errorf("%s: %v", what, d)
		return tree
	}
	wantRight(t, source, tree.Nodes)
	return tree
}

// nested are the ways in which deep things stand in one another: what is ahead of the inner one and behind it, as often as one likes, and the innermost one.
var nested = []struct {
	entry       int
	first       string
	ahead       string
	inner       string
	behind      string
	last        string
	outer, more int // how many others the innermost one stands within: outer, and more each time
	back        int // how many bytes ahead of it the first one that is too deep begins
}{
	{entry: 2, ahead: "& ", inner: "i64", more: 1},
	{entry: 2, ahead: "&mut ", inner: "S", more: 1},
	{entry: 2, ahead: "Box<", inner: "()", behind: ">", more: 1},
	{entry: 3, ahead: "E::V(", inner: "_", behind: ")", more: 1},
	{entry: 3, ahead: "E::V(", inner: "-1", behind: ")", more: 1},
	{entry: 3, ahead: "E::V(", inner: "F::W", behind: ")", more: 1},
	{entry: 1, ahead: "(", inner: "x", behind: ")", more: 1},
	{entry: 1, ahead: "(", inner: "1 + 2", behind: ")", more: 1},
	{entry: 1, ahead: "1 + (", inner: "x", behind: ")", more: 1},
	{entry: 1, ahead: "f(", inner: "true", behind: ")", more: 1},
	{entry: 1, ahead: "f(1,", inner: "g()", behind: ",)", more: 1, back: len("1,")},
	{entry: 1, ahead: "E::V(", inner: "()", behind: ")", more: 1},
	{entry: 1, ahead: "Box::new(", inner: "E::V", behind: ")", more: 1},
	{entry: 1, ahead: "S { a: ", inner: "S { }", behind: "}", more: 1},
	{entry: 1, ahead: "- ", inner: "x", more: 1},
	{entry: 1, ahead: "! ", inner: "7", more: 1},
	{entry: 1, ahead: "* ", inner: "x.y", more: 1},
	{entry: 1, ahead: "& ", inner: "x", more: 1},
	{entry: 1, ahead: "&mut ", inner: "x", more: 1},
	{entry: 1, ahead: "1 * -(", inner: "x", behind: ")", more: 2},
	{entry: 1, ahead: "{", inner: "{ }", behind: "}", outer: 1, more: 1},
	{entry: 1, ahead: "{", inner: "{ }", behind: ";}", outer: 1, more: 1},
	{entry: 1, ahead: "if ", inner: "x", behind: " { }", more: 1},
	{entry: 1, ahead: "match ", inner: "x", behind: " { }", more: 1},
	{entry: 1, ahead: "if a { } else ", inner: "{ }", more: 1, back: len("a { } else ")},
	{entry: 1, ahead: "{ let x = ", inner: "x", behind: "; }", more: 2},
	{entry: 1, ahead: "{ return ", inner: "x", behind: "; }", more: 2},
	{entry: 1, ahead: "-{ ", inner: "x", behind: " }", more: 3, back: len("{ ")},
	{entry: 1, ahead: "({ ", inner: "x", behind: " })", more: 3, back: len("{ ")},
	{entry: 0, first: "fn f() { ", ahead: "{", inner: "{ }", behind: "}", last: " }", outer: 1, more: 1},
	{entry: 0, first: "fn f() { ", ahead: "if a {", inner: "{ }", behind: "}", last: " }", outer: 1, more: 1},
	{entry: 0, first: "fn f() { ", ahead: "while a {", inner: "{ }", behind: "}", last: " }", outer: 1, more: 1},
	{entry: 0, first: "fn f() { ", ahead: "match a { _ => {", inner: "{ }", behind: "} }", last: " }", outer: 1, more: 1},
	{entry: 0, first: "fn f() { ", ahead: "match a { _ => ", inner: "x", behind: " }", last: " }", more: 1, back: len("a { _ => ")},
	{entry: 0, first: "fn f() { ", ahead: "if ", inner: "x", behind: " { }", last: " }", more: 1},
	{entry: 0, first: "fn f() { x = ", ahead: "(", inner: "x", behind: ")", last: "; }", outer: 1, more: 1},
	{entry: 0, first: "fn f() { ", ahead: "(", inner: "x", behind: ")", last: "; }", outer: 1, more: 1},
	{entry: 0, first: "fn f() { let x: ", ahead: "& ", inner: "S", last: " = 1; }", outer: 1, more: 1},
	{entry: 0, first: "fn f(a: ", ahead: "& ", inner: "S", last: ") { }", more: 1},
	{entry: 0, first: "fn f() -> ", ahead: "Box<", inner: "S", behind: ">", last: " { }", more: 1},
	{entry: 0, first: "struct S { a: ", ahead: "&mut ", inner: "bool", last: " }", more: 1},
	{entry: 0, first: "enum E { V(", ahead: "Box<", inner: "i64", behind: ">", last: ") }", more: 1},
	{entry: 0, first: "fn f() { match a { ", ahead: "E::V(", inner: "_", behind: ")", last: " => 1 } }", outer: 1, more: 1},
}

// 12.1, 12.2: each deep thing as deep as it may stand, and one deeper; there, what can not begin it is another error.
func TestDeepThings(t *testing.T) {
	for _, c := range nested {
		most := (api.MaxDeep - 1 - c.outer) / c.more
		read := entries[c.entry].read
		source := func(n int, inner string) (string, int) {
			ahead := c.first + strings.Repeat(c.ahead, n)
			return ahead + inner + strings.Repeat(c.behind, n) + c.last, len(ahead)
		}
		for _, n := range []int{0, 1, most} {
			s, _ := source(n, c.inner)
			wantTaken(t, s, read, s)
		}
		s, at := source(most+1, c.inner)
		first := tokensOf(t, s[at-c.back:])[0]
		wantError(t, s, read, s, api.Diag{Code: api.ErrDeep, From: at - c.back, To: at - c.back + len(first.Text)})
		far, _ := source(api.MaxDeep+50, c.inner) // the first one is told
		if tree, d := read(far); d.Code != api.ErrDeep || d.From < at-c.back || d.From > at-c.back+len(c.ahead) || len(tree.Nodes) != 0 {
			t.Errorf("%q: %v", far, d)
		}
		cut := s[:at-c.back]
		wantError(t, cut, read, cut, api.Diag{Code: api.ErrExpect, From: len(cut), To: len(cut)})
		for _, bad := range []string{" =>", " else", " :", " ||", " ->"} {
			wantError(t, cut+bad, read, cut+bad, api.Diag{Code: api.ErrExpect, From: len(cut) + 1, To: len(cut) + len(bad)})
		}
	}
}

// 12.1: at the place of a thing that would be too deep each token is ErrDeep just if it can begin it.
func TestBeginningsOfDeepThings(t *testing.T) {
	expr := strings.Fields("true false a new S 7 Box ( { if match - ! * &")
	for _, c := range []struct {
		entry  int
		ahead  string
		begins []string
		other  []string // what may stand there and is no such thing
	}{
		{2, strings.Repeat("Box<", 100), strings.Fields("i64 bool ( a new S & Box"), nil},
		{2, strings.Repeat("& ", 100), strings.Fields("i64 bool ( a new S & Box"), []string{"mut"}},
		{3, strings.Repeat("E::V(", 100), strings.Fields("_ a new S - 7 true false"), nil},
		{1, strings.Repeat("E::V(", 100), expr, nil},
		{1, strings.Repeat("f(", 100), expr, []string{")"}},
		{1, strings.Repeat("(", 100), expr, []string{")"}},
		{1, strings.Repeat("- ", 100), expr, nil},
		{1, strings.Repeat("& ", 100), expr, []string{"mut"}},
		{1, strings.Repeat("if ", 100), expr, nil},
		{1, strings.Repeat("{", 99), expr, strings.Fields("let while return break continue if match }")}, // the parts of what begins a statement count, it does not
		{1, strings.Repeat("(", 99) + "if ", expr, nil},
		{1, strings.Repeat("{", 98) + "{ return ", expr, []string{";"}},
		{1, strings.Repeat("{", 98) + "{ while ", expr, nil},
		{1, strings.Repeat("{", 98) + "{ let x: ", strings.Fields("i64 bool ( a new S & Box"), nil},
	} {
		for _, p := range pieces {
			ahead := c.ahead + " "
			s := ahead + p
			want := api.ErrExpect
			if slices.Contains(c.begins, p) {
				want = api.ErrDeep
			}
			_, d := entries[c.entry].read(s)
			if slices.Contains(c.other, p) {
				if d.Code != api.ErrExpect || d.From != len(s) {
					t.Errorf("%q: %v", s, d)
				}
			} else if d != (api.Diag{Code: want, From: len(ahead), To: len(s)}) {
				t.Errorf("%q: %v, not %v", s, d, want)
			}
		}
	}
}

// 12.1: long rows of signs, and of fields, as deep as the tree may be, and one deeper.
func TestLongRows(t *testing.T) {
	const most = 4 * api.MaxDeep
	for _, c := range []struct {
		read               func(string) (api.Tree, api.Diag)
		ahead, more, after string
		above              int // how deep the row's first node stands
	}{
		{Expr, "1", "+1", "", 0}, {Expr, "1", " && 1", "", 0}, {Expr, "a", ".b", "", 0}, {Expr, "a", "*b", " ", 0}, {Expr, "(((a", "-b", ")))", 0}, {Expr, "-a", ".b", "", 1}, {Expr, "f(a", ".b", ")", 1},
		{Parse, "fn main() { 1", "+1", " }", 3}, {Parse, "fn main() { 1", "+1", "; }", 4}, {Parse, "fn main() { x = a", ".b", "; }", 4}, {Parse, "fn main() { while a", " || b", " { } } // behind", 4},
	} {
		n := most - c.above
		s := c.ahead + strings.Repeat(c.more, n) + c.after
		wantTaken(t, "row of "+c.more, c.read, s)
		s = c.ahead + strings.Repeat(c.more, n+1) + c.after
		wantError(t, "longer row of "+c.more, c.read, s, api.Diag{Code: api.ErrDeep, To: len(s)})
		s += ")"
		want := api.Diag{Code: api.ErrExpect, From: len(s) - 1, To: len(s)}
		if strings.Contains(c.after, "//") {
			want = api.Diag{Code: api.ErrDeep, To: len(s)} // it stands in a remark
		}
		wantError(t, "another error behind", c.read, s, want)
	}
	shallow := strings.Repeat("1+1;", 5000) // many, but side by side
	wantTaken(t, "many statements", Parse, inMain(shallow[:4*4998]))
}

// 12.1: as many nodes as there may be, and one more; which error comes first.
func TestManyNodes(t *testing.T) {
	call := func(args int) string { return "f(" + strings.Repeat("1,", args) + ")" }
	tree := wantTaken(t, "most nodes", Expr, call(api.MaxNodes-1))
	if len(tree.Nodes) != api.MaxNodes {
		t.Error(len(tree.Nodes))
	}
	s := call(api.MaxNodes)
	wantError(t, "one more", Expr, s, api.Diag{Code: api.ErrLong, To: len(s)})
	s = " " + s + " //"
	wantError(t, "one more, and blanks", Expr, s, api.Diag{Code: api.ErrLong, To: len(s)})
	s = inMain(call(api.MaxNodes-5)) + "\n" // crate, function, result, block, call
	if tree := wantTaken(t, "most nodes of a crate", Parse, s); len(tree.Nodes) != api.MaxNodes {
		t.Error(len(tree.Nodes))
	}
	s = inMain(call(api.MaxNodes - 4))
	wantError(t, "one more of a crate", Parse, s, api.Diag{Code: api.ErrLong, To: len(s)})
	s = call(api.MaxNodes) + ";"
	wantError(t, "another token behind", Expr, s, api.Diag{Code: api.ErrExpect, From: len(s) - 1, To: len(s)})
	s = call(api.MaxNodes)
	wantError(t, "cut short", Expr, s[:len(s)-1], api.Diag{Code: api.ErrExpect, From: len(s) - 1, To: len(s) - 1})
	row := "1" + strings.Repeat("+1", api.MaxNodes)
	wantError(t, "too many, and too deep", Expr, row, api.Diag{Code: api.ErrLong, To: len(row)})
	s = call(api.MaxNodes) + " + " + strings.Repeat("(", api.MaxDeep)
	wantError(t, "too many, deep, and cut short", Expr, s, api.Diag{Code: api.ErrExpect, From: len(s), To: len(s)})
	s = call(api.MaxNodes) + " + " + strings.Repeat("(", api.MaxDeep) + "x"
	wantError(t, "too many, and a deep thing", Expr, s, api.Diag{Code: api.ErrDeep, From: len(s) - 1, To: len(s)})
}

// 12.1: errors of the source and of lex come first, wherever they stand.
func TestErrorsOfLex(t *testing.T) {
	long := strings.Repeat("n", api.MaxName+1)
	for _, e := range entries {
		for _, ahead := range []string{"", "a ", ") ", "fn main( ", strings.Repeat("(", api.MaxDeep+5), "// \u00e9\n"} {
			n := len(ahead)
			wantError(t, ahead, e.read, ahead+"1a )", api.Diag{Code: api.ErrNumber, From: n, To: n + 2})
			wantError(t, ahead, e.read, ahead+"| )", api.Diag{Code: api.ErrByte, From: n, To: n + 1})
			wantError(t, ahead, e.read, ahead+"\u20ac", api.Diag{Code: api.ErrByte, From: n, To: n + 3})
			wantError(t, ahead, e.read, ahead+long, api.Diag{Code: api.ErrLong, From: n, To: n + len(long)})
			wantError(t, ahead, e.read, ahead+"| // \xff", api.Diag{Code: api.ErrUtf, From: n + 5, To: n + 6})
			wantError(t, ahead, e.read, ahead+strings.Repeat("|", api.MaxSource+1), api.Diag{Code: api.ErrLong})
		}
		blanks := strings.Repeat(" ", api.MaxSource+1)
		wantError(t, "blanks", e.read, blanks, api.Diag{Code: api.ErrLong})
		wantError(t, "no letters", e.read, strings.Repeat("\xff", api.MaxSource+1), api.Diag{Code: api.ErrLong})
	}
	source := "fn main() { }"
	source += strings.Repeat(" ", api.MaxSource-len(source))
	tree := wantTaken(t, "a source as long as it may be", Parse, source)
	if n := tree.Nodes[len(tree.Nodes)-1]; n.Kind != api.KCrate || n.From != 0 || n.To != api.MaxSource {
		t.Error(n)
	}
	wantError(t, "longer", Parse, source+" ", api.Diag{Code: api.ErrLong})
}

// P1: sources as long as they may be, of one thing over and over.
func TestLongSources(t *testing.T) {
	for _, p := range append(slices.Clone(pieces), "{ ", "( ", "- ", "& ", "if a { } else ", "match a { _ => ", "f(", "S { a: ", "let x = ", "E::V(", "Box<", "Box::new(", "fn f() { } ", "fn f() { ", "struct S { } ", "a + ", "a.", "a ; ", "{ } ", "1 => ") {
		s := strings.Repeat(p+" ", api.MaxSource/(len(p)+1))
		for _, e := range entries {
			tree, d := e.read(s)
			wantAnswer(t, s, tree, d)
		}
		source := ("fn f() { " + s)[:min(len(s)+9, api.MaxSource)]
		tree, d := Parse(source)
		wantAnswer(t, source, tree, d)
	}
}
