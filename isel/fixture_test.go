package isel

import (
	"bytes"
	"strings"
	"testing"

	"patina/api"
	"patina/lir"
	"patina/mir"
	"patina/mirtest"
	"patina/mirun"
)

const ofTypes = "struct S { a: i64, b: Box<i64> } struct Q { a: i64, b: i64, t: bool } struct N { } struct U { a: (), b: i64, c: () } struct W { a: Q, b: Q, c: Q, s: S, e: E } struct D { x: Box<i64>, y: Box<S> } struct P { e: E, d: D, l: L } " +
	"enum E { A, B(i64), C(Box<i64>), D(S), F(Q) } enum L { End, More(M) } struct M { v: i64, next: Box<L> } enum K { End, More(Box<J>) } struct J { v: i64, next: K } enum T { Leaf, Node(V) } struct V { l: Box<T>, v: i64, r: Box<T> } enum X { I(i64), T(bool), P(Q) } enum O { No, Yes(E), Both(D) } enum Z { A(Box<i64>), B(i64), C } struct H { next: Box<G>, n: i64, b: Box<i64> } enum G { End, More(H) } "

// bench has the functions that tests call.
func bench() mirtest.Bench {
	return mirtest.Bench{Types: ofTypes, Helpers: [][2]string{
		{"two(a: i64, b: i64) -> i64", "bb0; _0 = copy _1 - copy _2; return"},
		{"six(a: i64, b: bool, c: i64, d: &i64, e: i64, f: i64) -> i64", "7: i64; bb0; _0 = copy _1 - copy _3; _7 = copy _5 * copy _6; _0 = copy _0 + copy _7; _0 = copy _0 - copy _4.*; if copy _2 1 2; bb1; return; bb2; _0 = neg copy _0; return"},
		{"take(b: Box<i64>)", "bb0; drop _1; _0 = (); return"},
		{"give(n: i64) -> Box<i64>", "bb0; _0 = box copy _1; return"},
		{"wide(w: W, q: Q, e: E, n: i64, u: (), v: W) -> W", "bb0; _1.0.1 = copy _4; _1.1 = move _2; drop _1.4; _1.4 = move _3; drop _6; _0 = move _1; return"},
		{"flip(q: Q) -> Q", "bb0; _0 = make Q copy _1.1 copy _1.0 copy _1.2; _0.2 = not copy _0.2; return"},
		{"put(r: &mut i64, n: i64)", "bb0; _1.* = copy _2; _0 = (); return"},
		{"look(q: &Q) -> i64", "bb0; _0 = copy _1.*.0 * 10; _0 = copy _0 + copy _1.*.1; return"},
		{"pass(r: &mut S) -> &mut Box<i64>", "bb0; _0 = mut _1.*.1; return"},
		{"nothing(u: (), n: N) -> N", "bb0; _0 = move _2; return"},
		{"unit(u: U) -> U", "bb0; _1.1 = copy _1.1 + 1; _0 = move _1; return"},
		{"truth(b: bool) -> bool", "bb0; _0 = not copy _1; return"},
		{"skip(n: i64, v: W, w: W, b: bool) -> i64", "bb0; drop _2; if copy _4 1 2; bb1; _0 = copy _1; return; bb2; _0 = 0; return"},
		{"ask(b: bool) -> i64", "bb0; if copy _1 1 2; bb1; _0 = 1; return; bb2; _0 = 2; return"},
		{"tell(b: &bool) -> bool", "bb0; _0 = copy _1.*; return"},
		{"over(n: i64) -> i64", "2: bool; 3: i64; 4: T; bb0; _2 = copy _1 == 0; if copy _2 1 2; bb1; _4 = pick T 0; _0 = copy _1 - 1; _0 = copy _0 * -9223372036854775808; drop _4; return; bb2; _3 = copy _1 - 1; _0 = call over copy _3 -> 3; bb3; return"},
		{"down(n: i64) -> i64", "2: bool; 3: i64; bb0; _2 = copy _1 == 0; if copy _2 1 2; bb1; _0 = 7; return; bb2; _3 = copy _1 - 1; _0 = call down copy _3 -> 3; bb3; return"},
		{"sum(l: &L) -> i64", "2: i64; bb0; _2 = tag _1.*; switch copy _2 0 1 2; bb1; _0 = 0; return; bb2; _0 = call sumof copy _1 -> 3; bb3; return"},
		{"sumof(l: &L) -> i64", "2: &L; 3: i64; bb0; _2 = ref _1.*.@1.1.*; _3 = call sum copy _2 -> 1; bb1; _0 = copy _1.*.@1.0 + copy _3; return"},
		{"list(n: i64) -> L", "2: i64; 3: M; 4: Box<L>; 5: bool; bb0; _0 = pick L 0; _2 = 0; goto 1; bb1; _5 = copy _2 < copy _1; if copy _5 2 3; bb2; _2 = copy _2 + 1; _4 = box move _0; _3 = make M copy _2 move _4; _0 = pick L 1 move _3; goto 1; bb3; return"},
		{"chain(n: i64) -> K", "2: i64; 3: J; 4: Box<J>; 5: bool; bb0; _0 = pick K 0; _2 = 0; goto 1; bb1; _5 = copy _2 < copy _1; if copy _5 2 3; bb2; _2 = copy _2 + 1; _3 = make J copy _2 move _0; _4 = box move _3; _0 = pick K 1 move _4; goto 1; bb3; return"},
		{"branch(n: i64) -> G", "2: i64; 3: H; 4: Box<G>; 5: Box<i64>; 6: bool; bb0; _0 = pick G 0; _2 = 0; goto 1; bb1; _6 = copy _2 < copy _1; if copy _6 2 3; bb2; _2 = copy _2 + 1; _4 = box move _0; _5 = box copy _2; _3 = make H move _4 copy _2 move _5; _0 = pick G 1 move _3; goto 1; bb3; return"},
		{"tree(n: i64) -> T", "2: bool; 3: i64; 4: T; 5: T; 6: Box<T>; 7: Box<T>; 8: V; bb0; _2 = copy _1 == 0; if copy _2 1 2; bb1; _0 = pick T 0; return; bb2; _3 = copy _1 - 1; _4 = call tree copy _3 -> 3; bb3; _5 = call tree copy _3 -> 4; bb4; _6 = box move _4; _7 = box move _5; _8 = make V move _6 copy _1 move _7; _0 = pick T 1 move _8; return"},
		{"whole(n: i64) -> W", "2: Q; 3: Box<i64>; 4: S; 5: E; bb0; _2 = make Q copy _1 2 true; _0.0 = move _2; _0.1 = make Q 3 copy _1 false; _0.2 = make Q 5 6 true; _3 = box copy _1; _0.3 = make S 8 move _3; _0.4 = pick E 1 copy _1; return"},
	}}
}

// programOf is MIR whose main has, behind its result, the lines of a row; its statements and ends are numbered.
func programOf(t *testing.T, row string) api.Mir {
	t.Helper()
	it, right := bench().Items("main()")
	m, is := bench().Program(it, mirtest.Lines(row))
	if !right || !is || mir.Check(m) != api.OK {
		t.Fatalf("%v %v %v\n%s", right, is, mir.Check(m), row)
	}
	return m
}

func textOf(m api.Mir) string {
	s := ""
	for f := range m.Fns {
		text, _ := mir.Text(m, f)
		s += text
	}
	return s
}

func lirText(l []api.LFn) string {
	text, _ := lir.Text(l)
	return text
}

// madeOf is what Make tells of a right program; it is held to being right, to main, and to 26.3.
func madeOf(t *testing.T, m api.Mir) []api.LFn {
	t.Helper()
	l, e := Make(m)
	if e != api.OK || lir.Check(l) != api.OK || l[0].Name != "main" {
		t.Fatalf("%v %v\n%s\nof\n%s", e, lir.Check(l), lirText(l), textOf(m))
	}
	if text := lirText(l); !hasBox(m) && (strings.Contains(text, "rt.alloc") || strings.Contains(text, "rt.free")) {
		t.Fatalf("a heap\n%s\nof\n%s", text, textOf(m))
	}
	return l
}

// hasBox tells whether a type of a program has a Box.
func hasBox(m api.Mir) bool {
	s := ""
	for _, x := range m.Items.Structs {
		for _, f := range x.Fields {
			s += f.Type
		}
	}
	for _, x := range m.Items.Enums {
		for _, f := range x.Variants {
			s += f.Type
		}
	}
	for _, f := range m.Fns {
		for _, l := range f.Locals {
			s += l.Type
		}
	}
	return strings.Contains(s, "Box")
}

// How runs end.
const (
	same     = iota // as those of MIR do
	noHeap          // by the heap's end
	manyCall        // by the call that is one too many
	notDone         // MIR's does not end
	undef           // it is undefined
)

// few is a fuel for runs of MIR.
const few = 60000

// ran holds a run of what was made of a program to that program's, with an input, where that ends; and tells how.
func ran(t *testing.T, m api.Mir, l []api.LFn, in []byte) int {
	t.Helper()
	a, e := mirun.Run(m, in, few)
	if e != api.OK {
		t.Fatal(e)
	}
	switch a.End {
	case api.EndFuel:
		return notDone
	case api.EndUndef:
		return undef
	}
	fuel := Factor * (a.Steps + 1)
	b, g := lir.Run(l, in, fuel)
	switch {
	case g != api.OK:
	case b.End == api.EndDone && b.Code == a.Code && bytes.Equal(b.Out, a.Out):
		return same
	case b.End == api.EndDone && b.Code == api.ExitHeap && bytes.HasPrefix(a.Out, b.Out):
		return noHeap
	case b.End == api.EndFuel && b.Steps < fuel && bytes.HasPrefix(a.Out, b.Out):
		return manyCall
	}
	t.Fatalf("%v %v, not %v\n%s\nof\n%s", g, b, a, lirText(l), textOf(m))
	return undef
}

// crowded is a program each function of which has so many blocks more, to which no run comes, that there is no room for what looks whether something went over to have blocks of its own.
func crowded(m api.Mir) api.Mir {
	c := api.Mir{Items: m.Items}
	for _, f := range m.Fns {
		x, truth := len(f.Locals), len(f.Locals)+1
		f.Locals = append(f.Locals[:x:x], api.Local{Type: "i64"}, api.Local{Type: "bool"})
		copyOf := func(local int) api.Operand {
			return api.Operand{Kind: api.OCopy, Place: api.Place{Local: local}}
		}
		first := len(f.Blocks)
		end := api.MTerm{Kind: api.TIf, Arg: copyOf(truth), To: []int{first + 1, 0}}
		blocks := []api.MBlock{{Stmts: []api.MStmt{{Kind: api.MSet, Place: api.Place{Local: truth}, R: api.Rvalue{Kind: api.RUse, Args: []api.Operand{{Kind: api.OTruth}}}}}, Term: end}}
		for k := range 600 {
			sum := api.Rvalue{Kind: api.RBin, Op: "+", Args: []api.Operand{copyOf(x), copyOf(x)}}
			to := []int{first + 1 + (k+1)%600, first + 1}
			blocks = append(blocks, api.MBlock{Stmts: []api.MStmt{{Kind: api.MSet, Place: api.Place{Local: x}, R: sum}}, Term: api.MTerm{Kind: api.TIf, Arg: copyOf(truth), To: to}})
		}
		f.Blocks = append(append([]api.MBlock{}, f.Blocks...), blocks...)
		f.Blocks = entered(f.Blocks, first)
		c.Fns = append(c.Fns, f)
	}
	return c
}

// entered are blocks of which one stands ahead of all others in place of the first one, which stands in its place.
func entered(l []api.MBlock, first int) []api.MBlock {
	l[0], l[first] = l[first], l[0]
	for b := range l {
		to := append([]int{}, l[b].Term.To...)
		for k := range to {
			switch to[k] {
			case 0:
				to[k] = first
			case first:
				to[k] = 0
			}
		}
		l[b].Term.To = to
	}
	return l
}

// wantSame holds what is made of mains to what they do, with some inputs, all of which they must come to an end with: as they are, and crowded, and with helpers that are one function.
func wantSame(t *testing.T, rows []string, inputs ...[]byte) {
	t.Helper()
	if len(inputs) == 0 {
		inputs = [][]byte{nil}
	}
	for _, row := range rows {
		m := programOf(t, row)
		l := madeOf(t, m)
		full := crowded(m)
		k := madeOf(t, full)
		one, fits := newProgram(m, true).functions()
		if e := lir.Check(one); e != api.OK || !fits {
			t.Fatal(e, fits)
		}
		for _, in := range inputs {
			if a, b, c := ran(t, m, l, in), ran(t, full, k, in), ran(t, m, one, in); a != same || b != same || c != same {
				t.Errorf("%s, %v: %d %d %d", row, in, a, b, c)
			}
		}
	}
}
