package mirun

import (
	"bytes"
	"slices"
	"strconv"
	"sync"
	"testing"

	"patina/api"
	"patina/items"
	"patina/mir"
	"patina/mirtest"
	"patina/parse"
)

const ofTypes = "struct S { a: i64, b: Box<i64> } struct N { } struct D { x: Box<i64>, y: Box<i64> } struct P { s: S, e: E, u: (), l: Box<L> } " +
	"enum E { A, B(i64), C(S) } enum L { End, More(Box<L>) } enum X { I(i64), K(Box<i64>), Q(bool), M(Box<S>), F(Box<E>) } "

// helpers are the functions that main calls in tests: their heads, and their MIR behind their results and parameters.
func helpers() [][2]string {
	return [][2]string{
		{"f(x: i64, r: &S, b: Box<S>) -> &S", "bb0; _0 = copy _2; drop _3; return"},
		{"g() -> Box<i64>", "bb0; _0 = box 1; return"},
		{"id(b: Box<i64>) -> Box<i64>", "bb0; _0 = move _1; return"},
		{"more(x: i64) -> i64", "2: (); bb0; _2 = call print copy _1 -> 1; bb1; _0 = copy _1 + 1; return"},
		{"two(x: i64, y: i64) -> i64", "bb0; _0 = copy _1 - copy _2; return"},
		{"six(a: i64, b: i64, c: i64, d: i64, e: i64, f: i64) -> i64", "bb0; _0 = copy _1 * copy _6; return"},
		{"unset(x: i64) -> i64", "bb0; return"},
		{"part(s: S) -> S", "bb0; _0 = move _1; drop _0.1; return"},
		{"ended()", "bb0; dead _0; return"},
		{"lend(x: i64) -> &i64", "bb0; _0 = ref _1; return"},
		{"assign(r: &mut i64, v: i64)", "bb0; _1.* = copy _2; return"},
		{"down(n: i64) -> i64", "2: bool; 3: i64; bb0; _2 = copy _1 == 0; if copy _2 1 2; bb1; _0 = 7; return; bb2; _3 = copy _1 - 1; _0 = call down copy _3 -> 3; bb3; return"},
		{"stop(x: i64)", "bb0; switch copy _1 1 1 2 2 3 3 4 4 5; bb1; panic 101; bb2; panic 102; bb3; panic 103; bb4; goto 4; bb5; return"},
		{"undef() -> i64", "1: i64; bb0; _0 = copy _1; return"},
		{"reads() -> i64", "bb0; _0 = call read -> 1; bb1; return"},
		{"free(b: Box<i64>)", "bb0; free _1; return"},
		{"flag(x: bool)", "bb0; return"},
		{"tells() -> bool", "bb0; _0 = true; return"},
		{"unit(u: ())", "bb0; return"},
		{"lent(x: i64, r: &i64)", "bb0; return"},
		{"late(x: i64, b: bool) -> i64", "bb0; _0 = 1; return"},
		{"whole() -> S", "1: Box<i64>; bb0; _1 = box 9; _0 = make S 1 move _1; return"},
		{"again()", "1: (); bb0; _1 = call main -> 1; bb1; return"},
		{"tail(n: i64)", "2: bool; 3: (); 4: i64; bb0; _2 = copy _1 > 0; if copy _2 1 2; bb1; _4 = copy _1 - 1; _3 = call tail copy _4 -> 3; bb2; _3 = call print 5 -> 3; bb3; return"},
		{"deep(n: i64)", "2: bool; 3: (); 4: i64; bb0; _2 = copy _1 > 0; if copy _2 1 3; bb1; _4 = copy _1 - 1; _3 = call deep copy _4 -> 2; bb2; _3 = call print copy _1 -> 3; bb3; return"},
	}
}

// locals are those of main, behind its result.
func locals() []string {
	return []string{"()", "i64", "bool", "Box<i64>", "S", "&S", "&mut S", "E", "&E", "P", "Box<S>", "N", "L", "&i64", "&mut i64", "Box<Box<i64>>", "D", "X", "X", "&mut Box<i64>", "i64", "Box<L>", "&mut L", "Box<()>", "Box<N>", "&()", "Box<i64>", "&mut X", "Box<D>", "&Box<i64>", "()", "bool", "Box<P>", "&mut Box<S>", "&mut Box<E>", "Box<E>"}
}

// ahead are the items, and the texts of all functions ahead of main.
var ahead = sync.OnceValues(func() (api.Items, []string) {
	source := ofTypes
	for _, h := range helpers() {
		source += "fn " + h[0] + " { panic() } "
	}
	tree, _ := parse.Parse(source + "fn main() { }")
	it, d := items.Of(tree)
	if d.Code != api.OK {
		panic(source[d.From:])
	}
	var texts []string
	for k, h := range helpers() {
		texts = append(texts, mirtest.Head(it.Fns[k])+mirtest.Lines(h[1]))
	}
	return it, texts
})

func functionOf(m api.Mir, name string) int {
	return slices.IndexFunc(m.Fns, func(f api.MFn) bool { return f.Name == name })
}

// programOf is MIR whose main has a body.
func programOf(t *testing.T, body string) api.Mir {
	t.Helper()
	it, texts := ahead()
	main := "fn main\n"
	for k, l := range locals() {
		main += strconv.Itoa(k) + ": " + l + "\n"
	}
	m, right := mirtest.Program(it, append(slices.Clone(texts), main+body)...)
	if !right || mir.Check(m) != api.OK {
		t.Fatalf("%v %v\n%s", right, mir.Check(m), body)
	}
	return m
}

// bodyOf is the body of a row of lines.
func bodyOf(row string) string {
	body, _ := mirtest.Blocks(row)
	return body
}

func rowOf(t *testing.T, row string) api.Mir {
	t.Helper()
	return programOf(t, bodyOf(row))
}

// modelRun is what the model tells of a function with numbers.
func modelRun(m api.Mir, name string, args []int64, in []byte, fuel int) (int64, api.Outcome) {
	o := mirtest.Run(m, name, args, in, fuel)
	return o.Told, o.Outcome
}

// done is an outcome of a program that ended.
func done(code int, out string, steps int) api.Outcome {
	return api.Outcome{End: api.EndDone, Code: code, Out: []byte(out), Steps: steps}
}

func undefined(out string, steps int) api.Outcome {
	return api.Outcome{End: api.EndUndef, Out: []byte(out), Steps: steps}
}

// wantRun holds a run to an outcome, and, with each fuel up to what it needs and some more, to what 21.3 says, and to the model.
func wantRun(t *testing.T, what string, m api.Mir, in string, want api.Outcome) {
	t.Helper()
	for _, fuel := range []int{want.Steps, want.Steps + 1, 1000, 1 << 40} {
		if o, e := Run(m, []byte(in), fuel); e != api.OK || !sameOutcome(o, want) {
			t.Errorf("%s: %v %v, not %v", what, e, o, want)
		}
	}
	for fuel := range want.Steps {
		o, e := Run(m, []byte(in), fuel)
		_, model := modelRun(m, "main", nil, []byte(in), fuel)
		if e != api.OK || o.End != api.EndFuel || o.Code != 0 || o.Steps != fuel || !bytes.HasPrefix(want.Out, o.Out) || !sameOutcome(o, model) {
			t.Errorf("%s: with %d: %v %v, not %v", what, fuel, e, o, model)
		}
	}
	if _, model := modelRun(m, "main", nil, []byte(in), 1000); !sameOutcome(model, want) {
		t.Errorf("%s: the model says %v, not %v", what, model, want)
	}
}

// row are lines of main, and how they end.
type row struct {
	lines string
	want  api.Outcome
}

func wantRows(t *testing.T, rows []row) {
	t.Helper()
	for _, r := range rows {
		wantRun(t, r.lines, rowOf(t, r.lines), "AB", r.want)
	}
}
