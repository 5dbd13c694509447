package build

import (
	"strconv"
	"strings"
	"testing"

	"patina/api"
	"patina/mir"
)

// wantFits holds Of of a source to a MIR that is right, or to ErrLong at its first function.
func wantFits(t *testing.T, what, source string, fits bool) api.Mir {
	t.Helper()
	u := typedOf(t, source)
	m, d := Of(u)
	want := api.Diag{}
	if !fits {
		n := u.Tree.Nodes[u.Items.Fns[0].Node]
		want = api.Diag{Code: api.ErrLong, From: n.From, To: n.To}
	}
	if d != want {
		t.Errorf("%s: %v, not %v", what, d, want)
	}
	if fits && mir.Check(m) != api.OK || !fits && !alike(m, api.Mir{}) {
		t.Errorf("%s: %v", what, mir.Check(m))
	}
	return m
}

// 20.1: MaxTemps locals, and one more; those that are left out do not count.
func TestMaxTemps(t *testing.T) {
	half := strings.Repeat("1; ", 2000)
	for _, more := range []int{0, 1} {
		m := wantFits(t, "temporaries", "fn main() { "+half+"print(1); "+half+strings.Repeat("2; ", 94+more)+"}", more == 0)
		if more == 0 && len(m.Fns[0].Locals) != MaxTemps {
			t.Error(len(m.Fns[0].Locals))
		}
		wantFits(t, "a variable among them", "fn main() { let x = 1; "+half+"print(1); "+half+strings.Repeat("2; ", 93+more)+"}", more == 0)
	}
	wantFits(t, "left out", "fn main() { "+half+"return; "+half+half+"}", true)
	if MaxTemps != 4096 || MaxPath != 64 || MaxStmts != 4096 {
		t.Error(MaxTemps, MaxPath, MaxStmts)
	}
}

// 20.1: MaxBlocks blocks, and one more; those that are left out do not count.
func TestMaxBlocks(t *testing.T) {
	for _, more := range []int{0, 1} {
		m := wantFits(t, "blocks", "fn main() { "+strings.Repeat("print(1); ", api.MaxBlocks-1+more)+"}", more == 0)
		if more == 0 && len(m.Fns[0].Blocks) != api.MaxBlocks {
			t.Error(len(m.Fns[0].Blocks))
		}
		wantFits(t, "and branches", "fn main() { if true { 1; } "+strings.Repeat("print(1); ", api.MaxBlocks-4+more)+"}", more == 0)
		wantFits(t, "and a panic", "fn main() { match 1 { 1 => { } } "+strings.Repeat("print(1); ", api.MaxBlocks-4+more)+"}", more == 0)
	}
	wantFits(t, "left out", "fn main() { "+strings.Repeat("print(1); ", 1000)+"return; "+strings.Repeat("print(1); ", 1000)+"}", true)
	for _, ahead := range []string{"if true { return; } else { return; } ", "match 1 { _ => { return; } } ", "match 1 { } ", "while true { if true { break; } else { break; } " + strings.Repeat("print(1); ", 1100) + "} "} {
		behind := strings.Repeat("print(1); ", 1100)
		if strings.HasPrefix(ahead, "while") {
			behind = ""
		}
		wantFits(t, "behind "+ahead[:12], "fn main() { "+ahead+behind+"}", true)
	}
	wantFits(t, "far too many", "fn main() { "+strings.Repeat("if true { return; } ", 2500)+"}", false)
}

// 20.1: a block of MaxStmts statements, and one more.
func TestMaxStmts(t *testing.T) {
	sets := strings.Repeat("x = 1; ", 2045)
	for _, more := range []int{0, 1} {
		last := "x = 1; "
		if more == 1 {
			last = "x = - -1; "
		}
		m := wantFits(t, "statements", "fn main() { let mut x = 0; "+sets+last+"}", more == 0)
		if more == 0 && len(m.Fns[0].Blocks[0].Stmts) != MaxStmts {
			t.Error(len(m.Fns[0].Blocks[0].Stmts))
		}
		wantFits(t, "of a later block", "fn main() { let mut x = 0; print(x); 1; 1; "+sets+last+"}", more == 0) // two in the place of those of the let
	}
	wantFits(t, "in two blocks", "fn main() { let mut x = 0; "+strings.Repeat("x = 1; ", 1500)+"print(1); "+strings.Repeat("x = 1; ", 1500)+"}", true)
	wantFits(t, "left out", "fn main() { let mut x = 0; return; "+strings.Repeat("x = 1; ", 3000)+"}", true)
}

// boxes is a type of so many Boxes within one another.
func boxes(n int) string { return strings.Repeat("Box<", n) + "i64" + strings.Repeat(">", n) }

// 20.1: a place with MaxPath parts, and one more, wherever it stands.
func TestMaxPath(t *testing.T) {
	const list = " struct L { next: Box<L>, v: i64, e: E, c: bool } enum E { A, B(i64), C(bool) } fn main() { }"
	nexts := strings.Repeat(".next", 31) // 61 parts
	for _, more := range []int{0, 1} {
		star := strings.Repeat("*", MaxPath+more)
		wantFits(t, "a copy", "fn f(b: "+boxes(MaxPath+more)+") -> i64 { "+star+"b } fn main() { }", more == 0)
		wantFits(t, "an operand", "fn f(b: "+boxes(MaxPath+more)+") -> i64 { 1 + "+star+"b } fn main() { }", more == 0)
		wantFits(t, "a set", "fn f(mut b: "+boxes(MaxPath+more)+") { "+star+"b = 1; } fn main() { }", more == 0)
		wantFits(t, "a loan", "fn f(b: &"+boxes(MaxPath-1+more)+") -> &i64 { &"+star+"b } fn main() { }", more == 0)
		wantFits(t, "a condition", "fn f(l: L) { if l"+nexts+[]string{".c", ".next.c"}[more]+" { } }"+list, more == 0)
		wantFits(t, "a subject", "fn f(l: &L) { match l"+nexts+[]string{".v", ".next.v"}[more]+" { 1 => { } _ => { } } }"+list, more == 0)
		wantFits(t, "a tag", "fn f(l: &L) { match l"+nexts+[]string{".e", ".next.e"}[more]+" { E::A => { } _ => { } } }"+list, more == 0)
		payload := strings.Repeat(".next", 30) // 1 + 59 parts, behind the reference
		wantFits(t, "a payload", "fn f(l: &L) { match l"+payload+[]string{".e", ".next.e"}[more]+" { E::B(x) => { } _ => { } } }"+list, more == 0)
		wantFits(t, "a payload's number", "fn f(l: &L) { match l"+payload+[]string{".e", ".next.e"}[more]+" { E::B(3) => { } _ => { } } }"+list, more == 0)
		wantFits(t, "a drop", "fn f("+[]string{"mut l: L", "l: &mut L"}[more]+", b: Box<L>) { *l"+nexts+".next = *b; }"+list, more == 0)
	}
	wantFits(t, "left out", "fn f(b: "+boxes(70)+") -> i64 { return 1; "+strings.Repeat("*", 70)+"b } fn main() { }", true)
	wantFits(t, "not named", "fn f(b: "+boxes(70)+") -> i64 { match "+strings.Repeat("*", 70)+"b { _ => 1 } } fn main() { }", true)
}

// 20.1: of two functions that are too long the first is told.
func TestFirstTooLong(t *testing.T) {
	blocks := "{ " + strings.Repeat("print(1); ", 1100) + "}"
	path := "(b: " + boxes(65) + ") -> i64 { " + strings.Repeat("*", 65) + "b }"
	stmts := "{ let mut x = 0; " + strings.Repeat("x = 1; ", 2100) + "}"
	for _, c := range []struct {
		source string
		first  int
	}{
		{"fn a() { } fn f" + path + " fn g() " + blocks + " fn main() { }", 1},
		{"fn g() " + blocks + " fn f" + path + " fn main() { }", 0},
		{"fn main() { } fn a() { } fn g() " + stmts + " fn b() { }", 2},
		{"fn main() " + stmts + " fn f" + path, 0},
		{"fn a() { } fn main() " + stmts, 1},
	} {
		u := typedOf(t, c.source)
		n := u.Tree.Nodes[u.Items.Fns[c.first].Node]
		if m, d := Of(u); d != (api.Diag{Code: api.ErrLong, From: n.From, To: n.To}) || !alike(m, api.Mir{}) {
			t.Errorf("%v, not %d, %d", d, n.From, n.To)
		}
	}
}

// P1: what would take far more room than there is to tell it is given up early, or never made.
func TestGreatSources(t *testing.T) {
	var lets strings.Builder
	for k := range 250 {
		lets.WriteString("let b" + strconv.Itoa(k) + " = Box::new(1); ")
	}
	wantFits(t, "returns behind a return", "fn main() { "+lets.String()+strings.Repeat("return; ", 6000)+"}", true)
	wantFits(t, "returns of all Boxes", "fn main() { "+lets.String()+strings.Repeat("if true { return; } ", 2000)+"}", false)
	wantFits(t, "breaks out of all Boxes", "fn main() { while true { "+lets.String()+strings.Repeat("if true { break; } ", 340)+"} }", true)
	m := wantFits(t, "as many as may be", "fn main() { "+lets.String()+strings.Repeat("if true { return; } ", 341)+"}", true)
	if n := len(m.Fns[0].Blocks); n != 1+3*341 {
		t.Error(n)
	}
	arms := strings.Repeat("1 => { } ", 3000)
	nest := strings.Repeat("Box<", 90) + "L" + strings.Repeat(">", 90)
	wantFits(t, "long paths in all arms", "fn f(l: L) { match l"+strings.Repeat(".n", 90)+".v { "+arms+"} } struct L { n: "+nest+", v: i64 } fn main() { }", false)
}
