package build

import (
	"strings"
	"testing"

	"patina/api"
	"patina/mir"
)

// behindAll are the items that the rows' functions name; they stand behind them, so that places in the source are the rows' own.
const behindAll = " struct S { a: i64, b: Box<i64> } struct D { x: i64, y: bool } struct P { d: D, s: S } enum E { A, B(i64), C(Box<i64>) } enum O { W(E), T(bool), Z } fn main() { }"

// row is a source and the MIR of its first function: its temporaries, and its blocks, each statement and end with what stands at its place in the source behind an @ (-: it has none).
type row struct {
	source, want string
}

// shown is the MIR of a source's first function, in the form of rows.
func shown(t *testing.T, source string) string {
	t.Helper()
	u := typedOf(t, source)
	m, d := Of(u)
	if d != (api.Diag{}) || mir.Check(m) != api.OK {
		t.Fatal(d, source)
	}
	text, _ := mir.Text(m, 0)
	lines := strings.Split(strings.TrimSuffix(text, "\n"), "\n")[2+len(u.Locals[0]):]
	spans := spansOf(m.Fns[0])
	for k, line := range lines {
		if strings.HasPrefix(line, "bb") || strings.Contains(line, ": ") {
			continue
		}
		excerpt := "-"
		if spans[0] != (span{}) {
			excerpt = source[spans[0].from:spans[0].to]
		}
		spans = spans[1:]
		lines[k] += " @ " + excerpt
	}
	return "\n" + strings.Join(lines, "\n")
}

// spansOf are the places in the source of all statements and ends.
func spansOf(f api.MFn) []span {
	var l []span
	for _, b := range f.Blocks {
		for _, s := range b.Stmts {
			l = append(l, span{s.From, s.To})
		}
		l = append(l, span{b.Term.At, b.Term.Till})
	}
	return l
}

func wantRows(t *testing.T, rows []row) {
	t.Helper()
	for _, r := range rows {
		if got := shown(t, r.source+behindAll); got != r.want {
			t.Errorf("%s%s", r.source, got)
		}
	}
}

// 20.1: constants, and places used as copies and moves.
func TestConstants(t *testing.T) {
	wantRows(t, []row{
		{"fn f() -> i64 { 7 }", `
bb0
_0 = 7 @ 7
return @ }`},
		{"fn f() -> bool { true }", `
bb0
_0 = true @ true
return @ }`},
		{"fn f() -> bool { false }", `
bb0
_0 = false @ false
return @ }`},
		{"fn f() { () }", `
bb0
_0 = () @ ()
return @ }`},
		{"fn f() { }", `
bb0
_0 = () @ { }
return @ }`},
		{"fn f(x: i64) -> i64 { x }", `
bb0
_0 = copy _1 @ x
dead _1 @ }
return @ }`},
		{"fn f(b: Box<i64>) -> Box<i64> { b }", `
bb0
_0 = move _1 @ b
drop _1 @ }
dead _1 @ }
return @ }`},
		{"fn f(r: &S) -> &S { r }", `
bb0
_0 = copy _1 @ r
dead _1 @ }
return @ }`},
		{"fn f(r: &mut S) -> &mut S { r }", `
bb0
_0 = move _1 @ r
dead _1 @ }
return @ }`},
		{"fn f(s: S) -> Box<i64> { s.b }", `
bb0
_0 = move _1.1 @ s.b
drop _1 @ }
dead _1 @ }
return @ }`},
		{"fn f(r: &Box<P>) -> i64 { *r.s.b }", `
bb0
_0 = copy _1.*.*.1.1.* @ *r.s.b
dead _1 @ }
return @ }`},
		{"fn f(b: Box<Box<D>>) -> bool { b.y }", `
bb0
_0 = copy _1.*.*.1 @ b.y
drop _1 @ }
dead _1 @ }
return @ }`},
		{"fn f(r: &P) -> i64 { g(r).s.a } fn g(r: &P) -> &P { r }", `
2: &P
3: &P
bb0
_2 = copy _1 @ r
_3 = call g copy _2 -> 1 @ g(r)
bb1
_0 = copy _3.*.1.0 @ g(r).s.a
dead _1 @ }
return @ }`},
		{"fn f(r: &Box<i64>) -> i64 { **{ r } }", `
2: &Box<i64>
bb0
_2 = copy _1 @ r
_0 = copy _2.*.* @ **{ r }
dead _1 @ }
return @ }`},
	})
}

// 20.1: signs, and && and || within one another.
func TestSigns(t *testing.T) {
	wantRows(t, []row{
		{"fn f(x: i64) -> i64 { x + 2 * x }", `
2: i64
3: i64
4: i64
bb0
_2 = copy _1 @ x
_3 = copy _1 @ x
_4 = 2 * copy _3 @ 2 * x
_0 = copy _2 + copy _4 @ x + 2 * x
dead _1 @ }
return @ }`},
		{"fn f(x: i64, y: bool) -> bool { !(-x == 1) != y }", `
3: i64
4: i64
5: bool
6: bool
7: bool
bb0
_3 = copy _1 @ x
_4 = neg copy _3 @ -x
_5 = copy _4 == 1 @ -x == 1
_6 = not copy _5 @ !(-x == 1)
_7 = copy _2 @ y
_0 = copy _6 != copy _7 @ !(-x == 1) != y
dead _2 @ }
dead _1 @ }
return @ }`},
		{"fn f(a: bool, b: bool) -> bool { a && b }", `
3: bool
bb0
_3 = copy _1 @ a
if copy _3 1 3 @ a
bb1
_0 = copy _2 @ b
goto 2 @ -
bb2
dead _2 @ }
dead _1 @ }
return @ }
bb3
_0 = false @ a && b
goto 2 @ -`},
		{"fn f(a: bool, b: bool) -> bool { a || b }", `
3: bool
bb0
_3 = copy _1 @ a
if copy _3 1 3 @ a
bb1
_0 = true @ a || b
goto 2 @ -
bb2
dead _2 @ }
dead _1 @ }
return @ }
bb3
_0 = copy _2 @ b
goto 2 @ -`},
		{"fn f(a: bool, b: bool, c: bool) -> bool { (a && b) || c && true }", `
4: bool
5: bool
6: bool
bb0
_4 = copy _1 @ a
if copy _4 1 9 @ a
bb1
_5 = copy _2 @ b
goto 2 @ -
bb2
if copy _5 3 5 @ a && b
bb3
_0 = true @ (a && b) || c && true
goto 4 @ -
bb4
dead _3 @ }
dead _2 @ }
dead _1 @ }
return @ }
bb5
_6 = copy _3 @ c
if copy _6 6 8 @ c
bb6
_0 = true @ true
goto 7 @ -
bb7
goto 4 @ -
bb8
_0 = false @ c && true
goto 7 @ -
bb9
_5 = false @ a && b
goto 2 @ -`},
	})
}

// 20.1: calls, and what is made of operands.
func TestMade(t *testing.T) {
	wantRows(t, []row{
		{"fn f() { print(read()) }", `
1: i64
bb0
_1 = call read -> 1 @ read()
bb1
_0 = call print copy _1 -> 2 @ print(read())
bb2
return @ }`},
		{"fn f(x: i64) -> i64 { h(h(x, 1), -x) } fn h(a: i64, b: i64) -> i64 { a }", `
2: i64
3: i64
4: i64
5: i64
bb0
_2 = copy _1 @ x
_3 = call h copy _2 1 -> 1 @ h(x, 1)
bb1
_4 = copy _1 @ x
_5 = neg copy _4 @ -x
_0 = call h copy _3 copy _5 -> 2 @ h(h(x, 1), -x)
bb2
dead _1 @ }
return @ }`},
		{"fn f() -> i64 { panic() }", `
bb0
panic 103 @ panic()`},
		{"fn f(x: i64) -> i64 { h(x, { panic(); 1 }) } fn h(a: i64, b: i64) -> i64 { a }", `
2: i64
bb0
_2 = copy _1 @ x
panic 103 @ panic()`},
		{"fn f(c: Box<i64>) -> S { S { b: c, a: read() } }", `
2: Box<i64>
3: i64
bb0
_2 = move _1 @ c
_3 = call read -> 1 @ read()
bb1
_0 = make S copy _3 move _2 @ S { b: c, a: read() }
drop _1 @ }
dead _1 @ }
return @ }`},
		{"fn f(x: i64) -> E { E::B(x + 1) }", `
2: i64
3: i64
bb0
_2 = copy _1 @ x
_3 = copy _2 + 1 @ x + 1
_0 = pick E 1 copy _3 @ E::B(x + 1)
dead _1 @ }
return @ }`},
		{"fn f() -> O { O::W(E::A) }", `
1: E
bb0
_1 = pick E 0 @ E::A
_0 = pick O 0 move _1 @ O::W(E::A)
return @ }`},
		{"fn f(s: &mut S) -> &mut Box<i64> { &mut s.b }", `
bb0
_0 = mut _1.*.1 @ &mut s.b
dead _1 @ }
return @ }`},
		{"fn f(s: &S) -> &i64 { &*s.b }", `
bb0
_0 = ref _1.*.1.* @ &*s.b
dead _1 @ }
return @ }`},
		{"fn f(x: i64) -> Box<Box<i64>> { Box::new(Box::new(x)) }", `
2: i64
3: Box<i64>
bb0
_2 = copy _1 @ x
_3 = box copy _2 @ Box::new(x)
_0 = box move _3 @ Box::new(Box::new(x))
dead _1 @ }
return @ }`},
	})
}

// 20.1: ifs, whose blocks may never come to their end, and blocks.
func TestBranches(t *testing.T) {
	wantRows(t, []row{
		{"fn f(c: bool) -> i64 { if c { 1 } else if !c { 2 } else { 3 } }", `
2: bool
3: bool
4: bool
bb0
_2 = copy _1 @ c
if copy _2 1 3 @ c
bb1
_0 = 1 @ 1
goto 2 @ -
bb2
dead _1 @ }
return @ }
bb3
_3 = copy _1 @ c
_4 = not copy _3 @ !c
if copy _4 4 6 @ !c
bb4
_0 = 2 @ 2
goto 5 @ -
bb5
goto 2 @ -
bb6
_0 = 3 @ 3
goto 5 @ -`},
		{"fn f(c: bool) { if c { print(1); } }", `
2: bool
3: ()
bb0
_2 = copy _1 @ c
if copy _2 1 4 @ c
bb1
_3 = call print 1 -> 2 @ print(1)
bb2
_0 = () @ { print(1); }
goto 3 @ -
bb3
dead _1 @ }
return @ }
bb4
_0 = () @ -
goto 3 @ -`},
		{"fn f(c: bool) -> i64 { if c { return 1; } else { 2 } }", `
2: bool
bb0
_2 = copy _1 @ c
if copy _2 1 2 @ c
bb1
_0 = 1 @ 1
dead _1 @ return 1
return @ return 1
bb2
_0 = 2 @ 2
goto 3 @ -
bb3
dead _1 @ }
return @ }`},
		{"fn f(c: bool) -> i64 { if c { return 1; } else { return 2; } }", `
2: bool
bb0
_2 = copy _1 @ c
if copy _2 1 2 @ c
bb1
_0 = 1 @ 1
dead _1 @ return 1
return @ return 1
bb2
_0 = 2 @ 2
dead _1 @ return 2
return @ return 2`},
		{"fn f(c: bool) { if c { return; } print(1); }", `
2: bool
3: ()
4: ()
bb0
_2 = copy _1 @ c
if copy _2 1 2 @ c
bb1
_0 = () @ return
dead _1 @ return
return @ return
bb2
_3 = () @ -
goto 3 @ -
bb3
_4 = call print 1 -> 4 @ print(1)
bb4
_0 = () @ { if c { return; } print(1); }
dead _1 @ }
return @ }`},
		{"fn f(c: bool) -> i64 { { if c { panic(); } else { return 2; } } }", `
2: bool
bb0
_2 = copy _1 @ c
if copy _2 1 2 @ c
bb1
panic 103 @ panic()
bb2
_0 = 2 @ 2
dead _1 @ return 2
return @ return 2`},
		{"fn f(b: Box<i64>) -> i64 { let c = b; let d = 2; { let e = Box::new(3); *e } }", `
bb0
live _2 @ let c = b
_2 = move _1 @ b
live _3 @ let d = 2
_3 = 2 @ 2
live _4 @ let e = Box::new(3)
_4 = box 3 @ Box::new(3)
_0 = copy _4.* @ *e
drop _4 @ }
dead _4 @ }
dead _3 @ }
drop _2 @ }
dead _2 @ }
drop _1 @ }
dead _1 @ }
return @ }`},
	})
}

// 20.1: matches of places, of values and of references, with each kind of pattern.
func TestMatches(t *testing.T) {
	wantRows(t, []row{
		{"fn f(e: E) -> i64 { match e { E::A => 0, E::B(x) => x, E::C(b) => *b } }", `
4: i64
5: i64
6: i64
bb0
_4 = tag _1 @ E::A
switch copy _4 0 1 3 @ E::A
bb1
_0 = 0 @ 0
goto 2 @ -
bb2
drop _1 @ }
dead _1 @ }
return @ }
bb3
_5 = tag _1 @ E::B(x)
switch copy _5 1 4 5 @ E::B(x)
bb4
live _2 @ x
_2 = copy _1.@1 @ x
_0 = copy _2 @ x
dead _2 @ ,
goto 2 @ -
bb5
_6 = tag _1 @ E::C(b)
switch copy _6 2 6 7 @ E::C(b)
bb6
live _3 @ b
_3 = move _1.@2 @ b
_0 = copy _3.* @ *b
drop _3 @ b
dead _3 @ b
goto 2 @ -
bb7
panic 103 @ -`},
		{"fn f(o: &mut O) { match o { O::W(E::C(b)) => { **b = 1; } O::T(true) => { } O::T(t) => { *t = true; } m => { *m = O::Z; } } }", `
5: i64
6: i64
7: i64
8: i64
9: bool
10: i64
11: bool
12: O
bb0
_5 = tag _1.* @ O::W(E::C(b))
switch copy _5 0 1 4 @ O::W(E::C(b))
bb1
_6 = tag _1.*.@0 @ E::C(b)
switch copy _6 2 2 4 @ E::C(b)
bb2
live _2 @ b
_2 = mut _1.*.@0.@2 @ b
_7 = 1 @ 1
_2.*.* = copy _7 @ **b = 1
_0 = () @ { **b = 1; }
dead _2 @ }
goto 3 @ -
bb3
dead _1 @ }
return @ }
bb4
_8 = tag _1.* @ O::T(true)
switch copy _8 1 5 7 @ O::T(true)
bb5
_9 = copy _1.*.@1 @ true
if copy _9 6 7 @ true
bb6
_0 = () @ { }
goto 3 @ -
bb7
_10 = tag _1.* @ O::T(t)
switch copy _10 1 8 9 @ O::T(t)
bb8
live _3 @ t
_3 = mut _1.*.@1 @ t
_11 = true @ true
_3.* = copy _11 @ *t = true
_0 = () @ { *t = true; }
dead _3 @ }
goto 3 @ -
bb9
live _4 @ m
_4 = move _1 @ m
_12 = pick O 2 @ O::Z
drop _4.* @ *m = O::Z
_4.* = move _12 @ *m = O::Z
_0 = () @ { *m = O::Z; }
dead _4 @ }
goto 3 @ -`},
		{"fn f(o: &O) -> i64 { match o { O::W(E::B(-1)) => 1, O::W(e) => match e { E::B(7) => 2, _ => 3 }, _ => 4 } }", `
3: i64
4: i64
5: i64
6: i64
7: i64
8: i64
bb0
_3 = tag _1.* @ O::W(E::B(-1))
switch copy _3 0 1 5 @ O::W(E::B(-1))
bb1
_4 = tag _1.*.@0 @ E::B(-1)
switch copy _4 1 2 5 @ E::B(-1)
bb2
_5 = copy _1.*.@0.@1 @ -1
switch copy _5 -1 3 5 @ -1
bb3
_0 = 1 @ 1
goto 4 @ -
bb4
dead _1 @ }
return @ }
bb5
_6 = tag _1.* @ O::W(e)
switch copy _6 0 6 11 @ O::W(e)
bb6
live _2 @ e
_2 = ref _1.*.@0 @ e
_7 = tag _2.* @ E::B(7)
switch copy _7 1 7 10 @ E::B(7)
bb7
_8 = copy _2.*.@1 @ 7
switch copy _8 7 8 10 @ 7
bb8
_0 = 2 @ 2
goto 9 @ -
bb9
dead _2 @ ,
goto 4 @ -
bb10
_0 = 3 @ 3
goto 9 @ -
bb11
_0 = 4 @ 4
goto 4 @ -`},
		{"fn f(x: i64) -> bool { match x + 1 { -3 => true, 4 => false, _ => x == 0 } }", `
2: i64
3: i64
4: i64
5: i64
6: i64
bb0
_2 = copy _1 @ x
_3 = copy _2 + 1 @ x + 1
_4 = copy _3 @ -3
switch copy _4 -3 1 3 @ -3
bb1
_0 = true @ true
goto 2 @ -
bb2
dead _1 @ }
return @ }
bb3
_5 = copy _3 @ 4
switch copy _5 4 4 5 @ 4
bb4
_0 = false @ false
goto 2 @ -
bb5
_6 = copy _1 @ x
_0 = copy _6 == 0 @ x == 0
goto 2 @ -`},
		{"fn f(r: &i64) -> i64 { match r { 5 => 1, y => *y } }", `
3: i64
bb0
_3 = copy _1.* @ 5
switch copy _3 5 1 3 @ 5
bb1
_0 = 1 @ 1
goto 2 @ -
bb2
dead _1 @ }
return @ }
bb3
live _2 @ y
_2 = copy _1 @ y
_0 = copy _2.* @ *y
dead _2 @ y
goto 2 @ -`},
		{"fn f(b: bool) -> i64 { match b { true => 1, false => 2 } }", `
2: bool
3: bool
bb0
_2 = copy _1 @ true
if copy _2 1 3 @ true
bb1
_0 = 1 @ 1
goto 2 @ -
bb2
dead _1 @ }
return @ }
bb3
_3 = copy _1 @ false
if copy _3 4 5 @ false
bb4
panic 103 @ -
bb5
_0 = 2 @ 2
goto 2 @ -`},
		{"fn f() -> i64 { match Box::new(1) { b => *b } }", `
2: Box<i64>
bb0
_2 = box 1 @ Box::new(1)
live _1 @ b
_1 = move _2 @ b
_0 = copy _1.* @ *b
drop _1 @ b
dead _1 @ b
goto 1 @ -
bb1
drop _2 @ }
return @ }`},
		{"fn f() { match (S { a: 1, b: Box::new(2) }) { _ => { return; } } }", `
1: Box<i64>
2: S
bb0
_1 = box 2 @ Box::new(2)
_2 = make S 1 move _1 @ S { a: 1, b: Box::new(2) }
_0 = () @ return
drop _2 @ return
return @ return`},
		{"fn f() -> i64 { match { return 1; E::A } { E::A => 2, _ => 3 } }", `
bb0
_0 = 1 @ 1
return @ return 1`},
		{"fn f(c: bool) -> i64 { match { if c { return 1; } E::A } { E::A => 2, _ => 3 } }", `
2: bool
3: ()
4: E
5: i64
bb0
_2 = copy _1 @ c
if copy _2 1 2 @ c
bb1
_0 = 1 @ 1
dead _1 @ return 1
return @ return 1
bb2
_3 = () @ -
goto 3 @ -
bb3
_4 = pick E 0 @ E::A
_5 = tag _4 @ E::A
switch copy _5 0 4 6 @ E::A
bb4
_0 = 2 @ 2
goto 5 @ -
bb5
drop _4 @ }
dead _1 @ }
return @ }
bb6
_0 = 3 @ 3
goto 5 @ -`},
		{"fn f(p: &P) -> &D { match p.d { _ => &p.d } }", `
bb0
_0 = ref _1.*.0 @ &p.d
goto 1 @ -
bb1
dead _1 @ }
return @ }`},
		{"fn f(e: E) -> i64 { match e { } }", `
bb0
panic 103 @ -`},
		{"fn f(e: &E) -> i64 { match *e { E::B(x) => x, _ => panic() } }", `
3: i64
bb0
_3 = tag _1.* @ E::B(x)
switch copy _3 1 1 3 @ E::B(x)
bb1
live _2 @ x
_2 = copy _1.*.@1 @ x
_0 = copy _2 @ x
dead _2 @ ,
goto 2 @ -
bb2
dead _1 @ }
return @ }
bb3
panic 103 @ panic()`},
		{"fn f() { match g().d { d => { } } } fn g() -> &mut P { panic() }", `
2: &mut P
bb0
_2 = call g -> 1 @ g()
bb1
live _1 @ d
_1 = move _2.*.0 @ d
_0 = () @ { }
dead _1 @ }
goto 2 @ -
bb2
return @ }`},
	})
}

// 20.1: statements, with drops of what owns.
func TestStatements(t *testing.T) {
	wantRows(t, []row{
		{"fn f(b: Box<i64>) { b; Box::new(1); 5; }", `
2: Box<i64>
3: Box<i64>
4: i64
bb0
_2 = move _1 @ b
drop _2 @ b
_3 = box 1 @ Box::new(1)
drop _3 @ Box::new(1)
_4 = 5 @ 5
_0 = () @ { b; Box::new(1); 5; }
drop _1 @ }
dead _1 @ }
return @ }`},
		{"fn f(mut s: S) { s.a = 3; s.b = Box::new(4); s = S { a: 1, b: s.b }; }", `
2: i64
3: Box<i64>
4: Box<i64>
5: S
bb0
_2 = 3 @ 3
_1.0 = copy _2 @ s.a = 3
_3 = box 4 @ Box::new(4)
drop _1.1 @ s.b = Box::new(4)
_1.1 = move _3 @ s.b = Box::new(4)
_4 = move _1.1 @ s.b
_5 = make S 1 move _4 @ S { a: 1, b: s.b }
drop _1 @ s = S { a: 1, b: s.b }
_1 = move _5 @ s = S { a: 1, b: s.b }
_0 = () @ { s.a = 3; s.b = Box::new(4); s = S { a: 1, b: s.b }; }
drop _1 @ }
dead _1 @ }
return @ }`},
		{"fn f(s: &mut S) { g(s).a = read(); *g(s).b = 2; } fn g(s: &mut S) -> &mut S { s }", `
2: i64
3: &mut S
4: &mut S
5: i64
6: &mut S
7: &mut S
bb0
_2 = call read -> 1 @ read()
bb1
_3 = move _1 @ s
_4 = call g move _3 -> 2 @ g(s)
bb2
_4.*.0 = copy _2 @ g(s).a = read()
_5 = 2 @ 2
_6 = move _1 @ s
_7 = call g move _6 -> 3 @ g(s)
bb3
_7.*.1.* = copy _5 @ *g(s).b = 2
_0 = () @ { g(s).a = read(); *g(s).b = 2; }
dead _1 @ }
return @ }`},
		{"fn f(b: Box<i64>) -> Box<i64> { let x = 1; { let c = Box::new(2); if *b == x { return b; } c } }", `
4: i64
5: i64
6: bool
7: ()
bb0
live _2 @ let x = 1
_2 = 1 @ 1
live _3 @ let c = Box::new(2)
_3 = box 2 @ Box::new(2)
_4 = copy _1.* @ *b
_5 = copy _2 @ x
_6 = copy _4 == copy _5 @ *b == x
if copy _6 1 2 @ *b == x
bb1
_0 = move _1 @ b
drop _3 @ return b
dead _3 @ return b
dead _2 @ return b
drop _1 @ return b
dead _1 @ return b
return @ return b
bb2
_7 = () @ -
goto 3 @ -
bb3
_0 = move _3 @ c
drop _3 @ }
dead _3 @ }
dead _2 @ }
drop _1 @ }
dead _1 @ }
return @ }`},
		{"fn f() -> i64 { let b = Box::new({ return 1; 2 }); *b }", `
bb0
live _1 @ let b = Box::new({ return 1; 2 })
_0 = 1 @ 1
drop _1 @ return 1
dead _1 @ return 1
return @ return 1`},
		{"fn f() { return; print(1); while true { } }", `
bb0
_0 = () @ return
return @ return`},
		{"fn f() -> i64 { return panic(); }", `
bb0
panic 103 @ panic()`},
	})
}

// 20.1: loops, and what leaves them.
func TestLoops(t *testing.T) {
	wantRows(t, []row{
		{"fn f(mut x: i64) { while x < 3 { x = x + 1; } }", `
2: i64
3: bool
4: i64
5: i64
6: ()
bb0
goto 1 @ -
bb1
_2 = copy _1 @ x
_3 = copy _2 < 3 @ x < 3
if copy _3 2 3 @ x < 3
bb2
_4 = copy _1 @ x
_5 = copy _4 + 1 @ x + 1
_1 = copy _5 @ x = x + 1
_6 = () @ { x = x + 1; }
goto 1 @ -
bb3
_0 = () @ { while x < 3 { x = x + 1; } }
dead _1 @ }
return @ }`},
		{"fn f(c: bool) { while true { let b = Box::new(1); if c { break; } { let d = 2; continue; } } }", `
4: bool
5: ()
bb0
goto 1 @ -
bb1
if true 2 4 @ true
bb2
live _2 @ let b = Box::new(1)
_2 = box 1 @ Box::new(1)
_4 = copy _1 @ c
if copy _4 3 5 @ c
bb3
drop _2 @ break
dead _2 @ break
goto 4 @ -
bb4
_0 = () @ { while true { let b = Box::new(1); if c { break; } { let d = 2; continue; } } }
dead _1 @ }
return @ }
bb5
_5 = () @ -
goto 6 @ -
bb6
live _3 @ let d = 2
_3 = 2 @ 2
dead _3 @ continue
drop _2 @ continue
dead _2 @ continue
goto 1 @ -`},
		{"fn f(c: bool) { while c { while { if c { break; } c } { break; } } }", `
2: bool
3: bool
4: ()
5: bool
6: ()
bb0
goto 1 @ -
bb1
_2 = copy _1 @ c
if copy _2 2 5 @ c
bb2
goto 3 @ -
bb3
_3 = copy _1 @ c
if copy _3 4 6 @ c
bb4
goto 5 @ -
bb5
_0 = () @ { while c { while { if c { break; } c } { break; } } }
dead _1 @ }
return @ }
bb6
_4 = () @ -
goto 7 @ -
bb7
_5 = copy _1 @ c
if copy _5 8 9 @ { if c { break; } c }
bb8
goto 9 @ -
bb9
_6 = () @ { while { if c { break; } c } { break; } }
goto 1 @ -`},
		{"fn f() { while match Box::new(true) { b => *b } { match E::A { E::C(b) => { continue; } e => { break; } } } }", `
4: Box<bool>
5: bool
6: E
7: i64
bb0
goto 1 @ -
bb1
_4 = box true @ Box::new(true)
live _1 @ b
_1 = move _4 @ b
_5 = copy _1.* @ *b
drop _1 @ b
dead _1 @ b
goto 2 @ -
bb2
drop _4 @ }
if copy _5 3 6 @ match Box::new(true) { b => *b }
bb3
_6 = pick E 0 @ E::A
_7 = tag _6 @ E::C(b)
switch copy _7 2 4 5 @ E::C(b)
bb4
live _2 @ b
_2 = move _6.@2 @ b
drop _2 @ continue
dead _2 @ continue
drop _6 @ continue
goto 1 @ -
bb5
live _3 @ e
_3 = move _6 @ e
drop _3 @ break
dead _3 @ break
drop _6 @ break
goto 6 @ -
bb6
_0 = () @ { while match Box::new(true) { b => *b } { match E::A { E::C(b) => { continue; } e => { break; } } } }
return @ }`},
		{"fn f() { while g() { panic(); } } fn g() -> bool { panic() }", `
1: bool
bb0
goto 1 @ -
bb1
_1 = call g -> 2 @ g()
bb2
if copy _1 3 4 @ g()
bb3
panic 103 @ panic()
bb4
_0 = () @ { while g() { panic(); } }
return @ }`},
	})
}
