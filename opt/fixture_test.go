package opt

import (
	"bytes"
	"strings"
	"testing"

	"patina/api"
	"patina/flow"
	"patina/items"
	"patina/mir"
	"patina/mirtest"
	"patina/mirun"
)

const ofTypes = "struct S { a: i64, b: Box<i64> } struct Q { a: i64, b: i64, t: bool } struct N { } struct W { a: Q, b: Q, c: Q } struct R { e: E, n: i64 } struct V { b: Box<i64>, e: E } " +
	"enum E { A, B(i64), C(Box<i64>), D(S) } enum L { End, More(Box<L>) } enum X { I(i64), T(bool), P(Q) } enum O { No, Yes(E) } "

// bench has the functions that tests call.
func bench() mirtest.Bench {
	return mirtest.Bench{Types: ofTypes, Helpers: [][2]string{
		{"take(b: Box<i64>)", "bb0; drop _1; _0 = (); return"},
		{"give() -> Box<i64>", "bb0; _0 = box 7; return"},
		{"two(a: i64, b: i64) -> i64", "bb0; _0 = copy _1 - copy _2; return"},
		{"put(r: &mut i64)", "bb0; _1.* = 9; _0 = (); return"},
		{"look(r: &i64) -> i64", "bb0; _0 = copy _1.*; return"},
		{"both(q: Q, n: i64)", "bb0; _0 = (); return"},
		{"early(n: i64, q: Q)", "bb0; _0 = (); return"},
		{"pair(a: Box<i64>, b: Box<i64>)", "bb0; drop _1; drop _2; _0 = (); return"},
		{"main()", "bb0; _0 = (); return"},
	}}
}

// programOf is MIR whose first function has a head and, behind its parameters, the lines of a row; its statements and ends are numbered.
func programOf(t *testing.T, head, row string) api.Mir {
	t.Helper()
	b := bench()
	if strings.HasPrefix(head, "main(") {
		b.Helpers = b.Helpers[:len(b.Helpers)-1]
	}
	it, right := b.Items(head)
	if !right {
		t.Fatal(head)
	}
	m, right := b.Program(it, mirtest.Lines(row))
	if !right || mir.Check(m) != api.OK {
		t.Fatalf("%v %v\n%s", right, mir.Check(m), row)
	}
	return m
}

// rowOf are the blocks of a function, as a row.
func rowOf(m api.Mir, f int) string {
	text, _ := mir.Text(m, f)
	_, blocks, _ := strings.Cut(text, "\nbb0\n")
	return strings.ReplaceAll(strings.TrimSuffix("bb0\n"+blocks, "\n"), "\n", "; ")
}

func textOf(m api.Mir) string {
	s := ""
	for f := range m.Fns {
		text, _ := mir.Text(m, f)
		s += text
	}
	return s
}

// madeOf is what Make tells of a right program; it is held to 25.2, and to being right.
func madeOf(t *testing.T, m api.Mir) api.Mir {
	t.Helper()
	got, e := Make(m)
	if e != api.OK || mir.Check(got) != api.OK || !items.Same(got.Items, m.Items) {
		t.Fatalf("%v %v\n%s\nof\n%s", e, mir.Check(got), textOf(got), textOf(m))
	}
	for f, fn := range got.Fns {
		if n := len(flow.Order(flow.NextOf(fn.Blocks), 0)); n != len(fn.Blocks) {
			t.Fatalf("%d blocks are come to\n%s\nof\n%s", n, textOf(got), textOf(m))
		}
		for _, b := range fn.Blocks {
			wantFolded(t, b)
		}
		if t.Failed() {
			t.Fatalf("%s\nof\n%s", rowOf(got, f), textOf(m))
		}
	}
	return got
}

// wantFolded holds a block to 25.2.
func wantFolded(t *testing.T, b api.MBlock) {
	t.Helper()
	if (b.Term.Kind == api.TIf || b.Term.Kind == api.TSwitch) && isConstant(b.Term.Arg) {
		t.Error("a test of a constant:", b.Term)
	}
	for _, s := range b.Stmts {
		constants := true
		for _, o := range s.R.Args {
			constants = constants && isConstant(o)
		}
		if constants && (s.R.Kind == api.RBin || s.R.Kind == api.RNeg || s.R.Kind == api.RNot) {
			t.Error("constants alone:", s.R) // of those that end the program, too: they are ends
		}
	}
}

// ends counts how runs ended.
type ends map[[2]int]int

// few is a fuel, and most the longest run that is held to each fuel below it.
const few, most = 5000, 60

// wantSame holds what was made of a program to 25.1, with an input: where the program ends, it ends the same, in no more steps; with each fuel it has printed what the program has.
func wantSame(t *testing.T, m, got api.Mir, in []byte, count ends) {
	t.Helper()
	a, e := mirun.Run(m, in, few)
	b, g := mirun.Run(got, in, few)
	count[[2]int{a.End, a.Code}]++
	if e != api.OK || g != api.OK {
		t.Fatal(e, g)
	}
	switch a.End {
	case api.EndDone:
		if b.End != a.End || b.Code != a.Code || b.Steps > a.Steps || !bytes.Equal(b.Out, a.Out) {
			t.Fatalf("%v: %v, not %v\n%s\nof\n%s", in, b, a, textOf(got), textOf(m))
		}
	case api.EndFuel:
		if !bytes.HasPrefix(b.Out, a.Out) {
			t.Fatalf("%v: %v, not %v\n%s\nof\n%s", in, b, a, textOf(got), textOf(m))
		}
	}
	for fuel := range min(a.Steps, most) {
		x, _ := mirun.Run(m, in, fuel)
		y, _ := mirun.Run(got, in, fuel)
		if a.End != api.EndUndef && (y.End == api.EndUndef || !bytes.HasPrefix(y.Out, x.Out)) || !bytes.HasPrefix(a.Out, y.Out) && a.End == api.EndDone {
			t.Fatalf("%v, %d: %v, not %v\n%s\nof\n%s", in, fuel, y, x, textOf(got), textOf(m))
		}
	}
}

// inputs are some that are read.
func inputs() [][]byte { return [][]byte{nil, {0}, {1}, {2, 0}, {65, 66, 1, 0}} }
