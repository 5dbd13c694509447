package drops

import (
	"strconv"
	"strings"
	"testing"

	"patina/api"
	"patina/mir"
	"patina/mirtest"
)

const ofTypes = "struct S { a: i64, b: Box<i64> } struct D { x: Box<i64>, y: Box<i64> } struct N { } struct I { a: i64, b: bool } struct P { s: S, e: E, u: (), d: D, l: Box<L> } struct T { a: Box<i64>, b: Box<i64>, c: Box<i64> } " +
	"enum E { A, B(i64), C(S) } enum L { End, More(Box<L>) } enum X { I(i64), K(Box<i64>), M(Box<S>), F(E), G(D) } enum Y { A(X), B(I), C } enum F { A, B(bool) } enum Z { A(Box<i64>), B(D) }"

// bench has the functions that tests call.
func bench() mirtest.Bench {
	return mirtest.Bench{Types: ofTypes, Helpers: [][2]string{
		{"id(b: Box<i64>) -> Box<i64>", "bb0; _0 = move _1; return"},
		{"take(d: D)", "bb0; drop _1; _0 = (); return"},
		{"give() -> D", "1: Box<i64>; 2: Box<i64>; bb0; _1 = box 1; _2 = box 2; _0 = make D move _1 move _2; return"},
		{"main()", "bb0; _0 = (); return"},
	}}
}

// programOf is MIR whose first function has a head and, behind its parameters, the lines of a row; its statements and ends are numbered.
func programOf(t *testing.T, head, row string) api.Mir {
	t.Helper()
	b := bench()
	it, right := b.Items(head)
	if !right {
		t.Fatal(head)
	}
	m, right := b.Program(it, mirtest.Lines(row))
	if !right || mir.Check(m) != api.OK {
		t.Fatalf("%v %v\n%s", right, mir.Check(m), row)
	}
	return m
}

// rowOf are the blocks of a function, as a row.
func rowOf(m api.Mir, f int) string {
	text, _ := mir.Text(m, f)
	_, blocks, _ := strings.Cut(text, "\nbb0\n")
	return strings.ReplaceAll(strings.TrimSuffix("bb0\n"+blocks, "\n"), "\n", "; ")
}

// edgesText are edges, as 0>1 _2 _3, with semicolons between.
func edgesText(l []api.EdgeDrop) string {
	var texts []string
	for _, e := range l {
		texts = append(texts, strconv.Itoa(e.From)+">"+strconv.Itoa(e.To)+" "+mirtest.PlaceTexts(e.Places))
	}
	return strings.Join(texts, "; ")
}

// placesText are where the statements and ends of a function stand in the source.
func placesText(f api.MFn) string {
	s := ""
	for _, b := range f.Blocks {
		for _, x := range b.Stmts {
			s += strconv.Itoa(x.From) + "-" + strconv.Itoa(x.To) + " "
		}
		s += strconv.Itoa(b.Term.At) + "-" + strconv.Itoa(b.Term.Till) + "; "
	}
	return s
}

// made is a row of what comes of a function: its statements, and where something is dropped on edges.
type made struct {
	head, row, want, edges string
}

// wantMade holds Make, Edges and the model to rows, and the other functions to what they were.
func wantMade(t *testing.T, rows []made) {
	t.Helper()
	for _, c := range rows {
		m := programOf(t, c.head, c.row)
		got, e := Make(m)
		edges, g := Edges(m, 0)
		if e != api.OK || g != api.OK || rowOf(got, 0) != c.want || edgesText(edges) != c.edges {
			t.Errorf("%s, %s: %v %v\n%s | %s, not\n%s | %s", c.head, c.row, e, g, rowOf(got, 0), edgesText(edges), c.want, c.edges)
		}
		model := modelOf(m.Items, m.Fns[0])
		want := m
		want.Fns = append([]api.MFn{model.made()}, m.Fns[1:]...)
		if rowOf(want, 0) != c.want || edgesText(model.edges()) != c.edges {
			t.Errorf("%s, %s: the model says\n%s | %s", c.head, c.row, rowOf(want, 0), edgesText(model.edges()))
		}
		if !mir.Same(got, want) || placesText(got.Fns[0]) != placesText(want.Fns[0]) {
			t.Errorf("%s, %s: %s, not %s", c.head, c.row, placesText(got.Fns[0]), placesText(want.Fns[0]))
		}
	}
}
