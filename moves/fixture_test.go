package moves

import (
	"slices"
	"strconv"
	"strings"
	"sync"
	"testing"

	"patina/api"
	"patina/items"
	"patina/mir"
	"patina/mirtest"
	"patina/parse"
)

const ofTypes = "struct S { a: i64, b: Box<i64> } struct D { x: Box<i64>, y: Box<i64> } struct N { } enum E { A, B(i64), C(S) } enum L { End, More(Box<L>) } "

// helpers are functions beside the one that tests look at: their heads, and their MIR behind their results and parameters.
func helpers() [][2]string {
	return [][2]string{
		{"id(b: Box<i64>) -> Box<i64>", "bb0; _0 = move _1; return"},
		{"two(b: Box<i64>, c: Box<i64>)", "bb0; drop _2; drop _1; _0 = (); return"},
		{"late(b: Box<i64>, x: i64)", "bb0; _0 = (); return"},
		{"early(x: i64, b: Box<i64>)", "bb0; _0 = (); return"},
		{"give() -> D", "1: Box<i64>; 2: Box<i64>; bb0; _1 = box 1; _2 = box 2; _0 = make D move _1 move _2; return"},
		{"main()", "bb0; _0 = (); return"},
	}
}

// The function that tests look at, its parameters, which are there at first, and its other locals, which are not.
const (
	tested = "it(b: Box<i64>, d: D, e: E, r: &Box<i64>, m: &mut D, c: Box<D>)"
	others = "7: Box<i64>; 8: D; 9: E; 10: i64; 11: bool; 12: S; 13: &i64; 14: &mut Box<i64>; 15: Box<D>; 16: &D; 17: Box<i64>; 18: Box<Box<i64>>; 19: L; 20: Box<L>; 21: &E; 22: &mut E; 23: (); 24: N; 25: &Box<i64>"
)

func lines(row string) string { return strings.ReplaceAll(row, "; ", "\n") + "\n" }

func head(f api.Fn) string {
	s := "fn " + f.Name + "\n0: " + f.Ret + "\n"
	for k, p := range f.Params {
		s += strconv.Itoa(k+1) + ": " + p.Type + "\n"
	}
	return s
}

// itemsWith are items whose first function has a head.
func itemsWith(t *testing.T, head string) api.Items {
	t.Helper()
	source := ofTypes + "fn " + head + " { panic() } "
	for _, h := range helpers() {
		source += "fn " + h[0] + " { panic() } "
	}
	tree, _ := parse.Parse(source)
	it, d := items.Of(tree)
	if d.Code != api.OK {
		t.Fatal(source[d.From:])
	}
	return it
}

// programOf is MIR whose first function has a head and a text behind its parameters; its statements and ends are numbered.
func programOf(t *testing.T, it api.Items, text string) api.Mir {
	t.Helper()
	texts := []string{head(it.Fns[0]) + text}
	for k, h := range helpers() {
		texts = append(texts, head(it.Fns[k+1])+lines(h[1]))
	}
	m, right := mirtest.Program(it, texts...)
	if !right || mir.Check(m) != api.OK {
		t.Fatalf("%v %v\n%s", right, mir.Check(m), text)
	}
	mirtest.Number(m)
	return m
}

var itemsOfTested sync.Once
var testedItems api.Items

// rowOf is MIR whose first function has the lines of a row, and the number of the one that is marked with ! or ?, or -1. Behind a call without a block a new one begins; ahead of all stands _0 = (), and at the end a return.
func rowOf(t *testing.T, row string) (api.Mir, int) {
	t.Helper()
	itemsOfTested.Do(func() { testedItems = itemsWith(t, tested) })
	s, blocks, open, count, marked := "bb0\n", 1, true, 0, -1
	for _, line := range strings.Split("_0 = (); "+row, "; ") {
		if line != strings.TrimLeft(line, "!?") {
			line, marked = line[1:], count
		}
		word, _, _ := strings.Cut(line, " ")
		switch open = true; {
		case strings.Contains(line, " = call ") && !strings.Contains(line, "->"):
			line += " -> " + strconv.Itoa(blocks) + "\nbb"
			blocks++
		case strings.HasPrefix(line, "bb"):
			blocks++
			count--
		case slices.Contains([]string{"return", "panic", "goto", "if", "switch"}, word) || strings.Contains(line, "->"):
			open = false
		}
		count++
		s += line + "\n"
	}
	if open {
		s += "return\n"
	}
	return programOf(t, testedItems, lines(others)+s), marked
}

// placeTexts are places as mir.Text writes them, with a blank between.
func placeTexts(l []api.Place) string {
	var texts []string
	for _, p := range l {
		s := "_" + strconv.Itoa(p.Local)
		for _, k := range p.Path {
			switch {
			case k >= 0:
				s += "." + strconv.Itoa(k)
			case k == -1:
				s += ".*"
			default:
				s += ".@" + strconv.Itoa(-2-k)
			}
		}
		texts = append(texts, s)
	}
	return strings.Join(texts, " ")
}
