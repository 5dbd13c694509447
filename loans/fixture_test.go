package loans

import (
	"strconv"
	"strings"
	"testing"

	"patina/api"
	"patina/mir"
	"patina/mirtest"
)

const ofTypes = "struct S { a: i64, b: Box<i64> } struct D { x: Box<i64>, y: Box<i64> } struct P { s: S, e: E, d: Box<D> } enum E { A, B(i64), C(S) } enum X { I(i64), K(Box<i64>), M(Box<S>), F(E) }"

// bench has the functions that tests call.
func bench() mirtest.Bench {
	return mirtest.Bench{Types: ofTypes, Helpers: [][2]string{
		{"first(x: &i64, y: &i64) -> &i64", "bb0; _0 = copy _1; return"},
		{"keep(m: &mut i64) -> &mut i64", "bb0; _0 = move _1; return"},
		{"mixed(n: i64, r: &S, b: Box<i64>, m: &mut D) -> &i64", "bb0; _0 = ref _2.*.0; return"},
		{"take(b: Box<i64>, r: &i64)", "bb0; _0 = (); return"},
		{"give() -> i64", "bb0; _0 = 7; return"},
		{"made() -> D", "bb0; panic 103"},
		{"main()", "bb0; _0 = (); return"},
	}}
}

// programOf is MIR whose first function has a head and, behind its parameters, the lines of a text; its statements and ends are numbered.
func programOf(t *testing.T, head, text string) api.Mir {
	t.Helper()
	b := bench()
	it, right := b.Items(head)
	if !right {
		t.Fatal(head)
	}
	m, right := b.Program(it, text)
	if !right || mir.Check(m) != api.OK {
		t.Fatalf("%v %v\n%s\n%s", right, mir.Check(m), head, text)
	}
	return m
}

// The function that most tests look at, and its locals behind the parameters.
const (
	tested = "it(n: i64, c: bool, b: Box<i64>, d: D, e: E, x: X) -> &i64"
	others = "7: &i64; 8: &mut D; 9: P; 10: i64; 11: &i64; 12: &i64; 13: &mut i64; 14: &mut i64; 15: &D; 16: &mut D; 17: &S; 18: &Box<i64>; 19: &mut Box<i64>; 20: (); 21: &E; 22: &mut E; 23: Box<i64>; 24: D; 25: &mut S; 26: &X; 27: &mut X; 28: Box<D>; 29: S; 30: bool; 31: &bool"
)

// rowOf is MIR whose first function has the blocks of a row, and the number of its line that is marked.
func rowOf(t *testing.T, row string) (api.Mir, int) {
	t.Helper()
	text, marked := mirtest.Blocks(row)
	return programOf(t, tested, mirtest.Lines(others)+text), marked
}

// numbersText are facts: each one's point, and its other numbers.
func numbersText[T [3]int | [4]int](l []T) string {
	var texts []string
	for _, x := range l {
		s := ""
		for k := range len(x) {
			s += []string{"", ".", " ", " "}[k] + strconv.Itoa(x[k])
		}
		texts = append(texts, s)
	}
	return strings.Join(texts, ", ")
}

// edgesText are edges: points, each with the one behind it.
func edgesText(l [][4]int) string {
	var texts []string
	for _, x := range l {
		texts = append(texts, strconv.Itoa(x[0])+"."+strconv.Itoa(x[1])+">"+strconv.Itoa(x[2])+"."+strconv.Itoa(x[3]))
	}
	return strings.Join(texts, ", ")
}

// factsText are facts of one kind, or of all.
func factsText(f api.Facts, kind string) string {
	switch kind {
	case "issued":
		return numbersText(f.Issued)
	case "edges":
		return edgesText(f.Edges)
	case "subsets":
		return numbersText(f.Subsets)
	case "killed":
		return numbersText(f.Killed)
	case "live":
		return numbersText(f.Live)
	case "against":
		return numbersText(f.Against)
	}
	return numbersText(f.Issued) + "; " + edgesText(f.Edges) + "; " + numbersText(f.Subsets) + "; " + numbersText(f.Killed) + "; " + numbersText(f.Live) + "; " + numbersText(f.Against)
}

// loansText are loans: each one's point, its holder, its place.
func loansText(l []api.Loan) string {
	var texts []string
	for _, x := range l {
		word := "ref "
		if x.Mut {
			word = "mut "
		}
		texts = append(texts, strconv.Itoa(x.Block)+"."+strconv.Itoa(x.At)+" "+strconv.Itoa(x.Holder)+" "+word+mirtest.PlaceText(x.Place))
	}
	return strings.Join(texts, ", ")
}

// listText are numbers, with blanks between.
func listText(l []int) string {
	var texts []string
	for _, n := range l {
		texts = append(texts, strconv.Itoa(n))
	}
	return strings.Join(texts, " ")
}

// pairsText are pairs of an origin and a loan.
func pairsText(l [][2]int) string {
	var texts []string
	for _, x := range l {
		texts = append(texts, strconv.Itoa(x[0])+":"+strconv.Itoa(x[1]))
	}
	return strings.Join(texts, " ")
}
