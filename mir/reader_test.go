package mir

import (
	"slices"
	"strconv"
	"testing"

	"patina/api"
	"patina/items"
	"patina/mirtest"
	"patina/parse"
)

// ahead are the items that the tests' functions name, ahead of main.
const ahead = "struct S { a: i64, b: Box<i64> } struct N { } struct P { s: S, e: E, u: (), l: Box<L> } enum E { A, B(i64), C(S) } enum L { End, More(Box<L>) } enum C { X, Y(bool) } " +
	"fn f(x: i64, r: &S, b: Box<S>) -> &S { r } fn g() -> Box<i64> { Box::new(1) } "

// itemsOf are the items of a source.
func itemsOf(t *testing.T, source string) api.Items {
	t.Helper()
	x, d := parse.Parse(source)
	if d.Code != api.OK {
		t.Fatal(d, source[d.From:])
	}
	it, d := items.Of(x)
	if d.Code != api.OK {
		t.Fatal(d, source[d.From:])
	}
	return it
}

// number is the number that a text is.
func number(s string) int {
	n, err := strconv.Atoi(s)
	if err != nil {
		panic(err)
	}
	return n
}

// placeOf is the place of a text.
func placeOf(text string) api.Place {
	p, right := mirtest.Place(text)
	if !right {
		panic(text)
	}
	return p
}

const (
	fText = "fn f\n0: &S\n1: i64\n2: &S\n3: Box<S>\nbb0\n_0 = copy _2\ndrop _3\nreturn\n"
	gText = "fn g\n0: Box<i64>\n1: Box<i64>\nbb0\n_0 = box 1\nreturn\n"
)

// locals are those of the tests' main, behind its result: one of each form of type.
const locals = "0: ()\n1: i64\n2: bool\n3: Box<i64>\n4: S\n5: &S\n6: &mut S\n7: E\n8: &E\n9: P\n10: Box<S>\n11: N\n12: L\n13: C\n14: &mut P\n15: Box<Box<i64>>\n16: &i64\n17: &mut i64\n18: &Box<i64>\n19: &()\n20: &bool\n"

// withMain is MIR whose main has these locals and a body.
func withMain(t *testing.T, body string) api.Mir {
	t.Helper()
	m, right := mirtest.Program(itemsOf(t, ahead+"fn main() { }"), fText, gText, "fn main\n"+locals+body)
	if !right {
		t.Fatal("no text of a function", body)
	}
	return m
}

// one is MIR whose main does one statement, and returns.
func one(t *testing.T, line string) api.Mir { return withMain(t, "bb0\n"+line+"\nreturn\n") }

// ending is MIR whose main has three blocks, the first with an end.
func ending(t *testing.T, line string) api.Mir {
	return withMain(t, "bb0\n"+line+"\nbb1\nreturn\nbb2\npanic 103\n")
}

// main is the function that tests change.
func main(m *api.Mir) *api.MFn { return &m.Fns[len(m.Fns)-1] }

// changed is MIR with another main, the rest as it is.
func changed(m api.Mir, change func(f *api.MFn)) api.Mir {
	m.Fns = slices.Clone(m.Fns)
	change(main(&m))
	return m
}
