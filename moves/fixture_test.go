package moves

import (
	"sync"
	"testing"

	"patina/api"
	"patina/mir"
	"patina/mirtest"
)

const ofTypes = "struct S { a: i64, b: Box<i64> } struct D { x: Box<i64>, y: Box<i64> } struct N { } enum E { A, B(i64), C(S) } enum L { End, More(Box<L>) } "

// helpers are functions beside the one that tests look at: their heads, and their MIR behind their results and parameters.
func helpers() [][2]string {
	return [][2]string{
		{"id(b: Box<i64>) -> Box<i64>", "bb0; _0 = move _1; return"},
		{"two(b: Box<i64>, c: Box<i64>)", "bb0; drop _2; drop _1; _0 = (); return"},
		{"late(b: Box<i64>, x: i64)", "bb0; _0 = (); return"},
		{"early(x: i64, b: Box<i64>)", "bb0; _0 = (); return"},
		{"give() -> D", "1: Box<i64>; 2: Box<i64>; bb0; _1 = box 1; _2 = box 2; _0 = make D move _1 move _2; return"},
		{"main()", "bb0; _0 = (); return"},
	}
}

// The function that tests look at, its parameters, which are there at first, and its other locals, which are not.
const (
	tested = "it(b: Box<i64>, d: D, e: E, r: &Box<i64>, m: &mut D, c: Box<D>)"
	others = "7: Box<i64>; 8: D; 9: E; 10: i64; 11: bool; 12: S; 13: &i64; 14: &mut Box<i64>; 15: Box<D>; 16: &D; 17: Box<i64>; 18: Box<Box<i64>>; 19: L; 20: Box<L>; 21: &E; 22: &mut E; 23: (); 24: N; 25: &Box<i64>"
)

func bench() mirtest.Bench { return mirtest.Bench{Types: ofTypes, Helpers: helpers()} }

// itemsWith are items whose first function has a head.
func itemsWith(t *testing.T, head string) api.Items {
	t.Helper()
	it, right := bench().Items(head)
	if !right {
		t.Fatal(head)
	}
	return it
}

// programOf is MIR whose first function has a text behind its parameters; its statements and ends are numbered.
func programOf(t *testing.T, it api.Items, text string) api.Mir {
	t.Helper()
	m, right := bench().Program(it, text)
	if !right || mir.Check(m) != api.OK {
		t.Fatalf("%v %v\n%s", right, mir.Check(m), text)
	}
	return m
}

var itemsOfTested sync.Once
var testedItems api.Items

// rowOf is MIR whose first function has the blocks of a row behind _0 = (), and the number of its line that is marked.
func rowOf(t *testing.T, row string) (api.Mir, int) {
	t.Helper()
	itemsOfTested.Do(func() { testedItems = itemsWith(t, tested) })
	text, marked := mirtest.Blocks("_0 = (); " + row)
	return programOf(t, testedItems, mirtest.Lines(others)+text), marked
}
