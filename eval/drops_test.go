package eval

import (
	"strings"
	"testing"

	"patina/api"
)

// spoilt is a statement behind which a Box of a variable t is a number: a drop of it is undefined.
const spoilt = "let mut t = T::I(0); match &mut t { T::I(x) => { t = T::K(Box::new(1)); *x = 5; } _ => () }; "

const spoils = 3 + 4 + 2 + 1 + 5 + 4 // its steps

// 18.1: what drops do, seen by steps.
func TestDrops(t *testing.T) {
	wantRows(t, []row{
		// each kind of scope
		{"{ let b = Box::new(1); } print(2);", "2", done, 1 + 1 + 1 + 3 + 1 + 3}, {"eat(Box::new(1)); print(2);", "2", done, 1 + 2 + 2 + 1 + 1 + 3}, {"match 1 { _ => { let b = Box::new(1); } }; print(2);", "2", done, 1 + 1 + 1 + 1 + 1 + 1 + 3 + 1 + 3}, {"match Box::new(1) { b => () }; print(2);", "2", done, 1 + 1 + 1 + 2 + 1 + 1 + 1 + 3}, {"if true { let b = Box::new(1); } else { } print(2);", "2", done, 1 + 1 + 1 + 1 + 1 + 3 + 1 + 3},
		// what is there in part is dropped in part
		{"let s = S { a: 1, b: Box::new(2) }; let b = s.b;", "", done, 1 + 5 + 3 + 1}, {"let b = Box::new(Box::new(1)); let c = *b;", "", done, 1 + 4 + 3 + 2}, {"let b = Box::new(S { a: 1, b: Box::new(2) }); eat(b.b);", "", done, 1 + 6 + 2 + 2 + 1 + 1 + 1}, {"let e = E::C(Box::new(1)); match e { E::C(b) => (), _ => () }", "", done, 1 + 4 + 1 + 1 + 2 + 1 + 1}, {"let l = L::More(Box::new(L::More(Box::new(L::End)))); match l { L::More(b) => (), _ => () }", "", done, 1 + 6 + 1 + 1 + 2 + 1 + 2}, {"let n = Box::new(N { }); let u = Box::new(());", "", done, 1 + 3 + 3 + 2},
		// the last one that began first: up to the one that is spoilt
		{"let a = Box::new(1); let b = Box::new(2); " + spoilt + "let c = Box::new(3);", "", undef, 1 + 3 + 3 + spoils + 3 + 1}, {"let a = Box::new(1); " + spoilt + "let b = Box::new(2); let c = Box::new(3);", "", undef, 1 + 3 + spoils + 3 + 3 + 2}, {spoilt + "let a = Box::new(1); { let b = Box::new(2); let c = Box::new(3); } let d = Box::new(4);", "", undef, 1 + spoils + 3 + 1 + 1 + 3 + 3 + 2 + 3 + 2},
		{"fn f(a: Box<i64>, t: T, b: Box<i64>) { let c = new(1); } fn main() { " + spoilt + "f(Box::new(1), t, Box::new(2)); }", "", undef, 1 + spoils + 2 + 2 + 1 + 2 + 1 + 1 + 2 + 3 + 1 + 1},
		// at a KSet what was there, at once; a spoilt one at once, too
		{spoilt + "t = T::I(1); print(2);", "", undef, 1 + spoils + 4}, {spoilt + "match &mut t { T::K(b) => { *b = Box::new(1); } _ => () }", "", undef, 1 + spoils + 1 + 2 + 2 + 1 + 1 + 2 + 2},
		{spoilt + "t; print(2);", "", undef, 1 + spoils + 2}, {"fn f() { " + spoilt + "let b = Box::new(1); return; } fn main() { f(); }", "", undef, 1 + 2 + 1 + spoils + 3 + 1 + 1}, {"while true { " + spoilt + "let b = Box::new(1); { let c = Box::new(2); break; } }", "", undef, 1 + 1 + 1 + 1 + spoils + 3 + 1 + 3 + 1 + 2}, {"while true { " + spoilt + "let b = Box::new(1); continue; }", "", undef, 1 + 1 + 1 + 1 + spoils + 3 + 1 + 1},
		{"fn f() -> T { " + spoilt + "t } fn main() { match f() { _ => { let b = new(1); print(3); } } print(4); }", "3", undef, 0}, {"fn f() -> T { " + spoilt + "t } fn main() { while true { match f() { _ => { let b = Box::new(1); break; } } } print(4); }", "", undef, 1 + 1 + 1 + 1 + 1 + 1 + 1 + spoils + 1 + 1 + 1 + 3 + 1 + 1},
		// fields in order
		{"struct Q { a: Box<i64>, t: T, b: Box<i64> } fn main() { " + spoilt + "Q { b: Box::new(1), t: t, a: Box::new(2) }; }", "", undef, 1 + spoils + 1 + 1 + 5 + 1},
	})
}

// A Box that is there twice, by words of it that were read as numbers.
func TestTwice(t *testing.T) {
	two := "let mut t = T::I(0); let mut v = T::I(0); match &mut t { T::I(x) => { t = T::K(Box::new(1)); let p = *x; match &mut v { T::I(y) => { v = T::K(Box::new(2)); *y = p; } _ => () } } _ => () }; print(7); "
	wantRows(t, []row{
		{two + "match v { T::K(b) => print(*b), _ => () } match t { T::K(b) => print(*b), _ => () }", "7 1", undef, 0}, {two + "match t { T::K(b) => print(*b), _ => () } print(8);", "7 1 8", undef, 0}, {two, "7", undef, 0},
	})
}

// What lies where another type's value was lent from: it is read as it lies, and undefined where it can not be used so.
func TestOverwritten(t *testing.T) {
	set := func(first, pattern, second, use string) string {
		return "let mut t = " + first + "; match &mut t { " + pattern + " => { t = " + second + "; print(1); " + use + " } _ => () }; print(2); match t { _ => () }"
	}
	wantRows(t, []row{
		{set("T::I(5)", "T::I(x)", "T::I(6)", "print(*x);"), "1 6 2", done, 0}, {set("T::I(5)", "T::I(x)", "T::K(Box::new(6))", "let y = *x;"), "1 2", done, 0}, {set("T::I(5)", "T::I(x)", "T::K(Box::new(6))", "print(*x);"), "1", undef, 0}, {set("T::I(5)", "T::I(x)", "T::K(Box::new(6))", "let y = *x + 1;"), "1", undef, 0}, {set("T::I(5)", "T::I(x)", "T::K(Box::new(6))", "let y = -*x;"), "1", undef, 0}, {set("T::I(5)", "T::I(x)", "T::K(Box::new(6))", "match *x { 6 => print(3), _ => print(4) }"), "1 4 2", done, 0}, {set("T::I(5)", "T::I(x)", "T::K(Box::new(6))", "if *x == 1 { }"), "1", undef, 0},
		{set("T::K(Box::new(5))", "T::K(x)", "T::I(6)", "print(**x);"), "1", undef, 0}, {set("T::K(Box::new(5))", "T::K(x)", "T::I(6)", "let y = *x;"), "1", undef, 0}, {set("T::K(Box::new(5))", "T::K(x)", "T::K(Box::new(6))", "print(**x);"), "1 6 2", done, 0}, {set("T::K(Box::new(5))", "T::K(x)", "T::Q(true)", "print(**x);"), "1", undef, 0},
		{set("T::F(E::A)", "T::F(x)", "T::I(1)", "match *x { E::B(y) => print(y), _ => print(4) }"), "1", undef, 0}, {set("T::F(E::A)", "T::F(x)", "T::I(0)", "match *x { E::A => print(3), _ => print(4) }"), "1 3 2", done, 0}, {set("T::F(E::A)", "T::F(x)", "T::I(77)", "match *x { E::A => print(3), E::B(_) => print(4), E::C(_) => print(5) }"), "1", panicked, 0}, {set("T::F(E::A)", "T::F(x)", "T::I(77)", "let y = *x;"), "1", undef, 0}, {set("T::F(E::A)", "T::F(x)", "T::I(3)", "let y = *x;"), "1", undef, 0}, {set("T::F(E::A)", "T::F(x)", "T::I(-1)", "let y = *x;"), "1", undef, 0}, {set("T::F(E::A)", "T::F(x)", "T::I(77)", "*x = E::A;"), "1", undef, 0}, {set("T::F(E::A)", "T::F(x)", "T::K(Box::new(1))", "let y = *x;"), "1", undef, 0}, {set("T::F(E::B(1))", "T::F(E::B(x))", "T::I(3)", "print(*x);"), "1", undef, 0},
		{set("T::Q(true)", "T::Q(x)", "T::I(77)", "if *x { print(3); } match *x { true => print(4), false => print(5), _ => print(6) }"), "1 6 2", done, 0}, {set("T::Q(true)", "T::Q(x)", "T::I(1)", "if *x { print(3); } if !*x { print(4); }"), "1 3 2", done, 0}, {set("T::Q(true)", "T::Q(x)", "T::K(Box::new(1))", "if *x { print(3); }"), "1", undef, 0}, {set("T::Q(true)", "T::Q(x)", "T::K(Box::new(1))", "if *x && true { print(3); }"), "1", undef, 0},
		// a block that is shorter than what is looked for in it
		{set("T::M(Box::new(P { d: D { x: 1, y: true }, s: S { a: 2, b: Box::new(3) }, l: Box::new(L::End) }))", "T::M(x)", "T::K(Box::new(9))", "print(x.d.x);"), "1 9 2", done, 0}, {set("T::M(Box::new(P { d: D { x: 1, y: true }, s: S { a: 2, b: Box::new(3) }, l: Box::new(L::End) }))", "T::M(x)", "T::K(Box::new(9))", "print(x.s.a);"), "1", undef, 0}, {set("T::M(Box::new(P { d: D { x: 1, y: true }, s: S { a: 2, b: Box::new(3) }, l: Box::new(L::End) }))", "T::M(x)", "T::K(Box::new(9))", "x.s.a = 4;"), "1", undef, 0}, {set("T::M(Box::new(P { d: D { x: 1, y: true }, s: S { a: 2, b: Box::new(3) }, l: Box::new(L::End) }))", "T::M(x)", "T::K(Box::new(9))", "let y = x.d;"), "1", undef, 0}, {set("T::M(Box::new(P { d: D { x: 1, y: true }, s: S { a: 2, b: Box::new(3) }, l: Box::new(L::End) }))", "T::M(x)", "T::K(Box::new(9))", "x.l = Box::new(L::End);"), "1", undef, 0}, {set("T::M(Box::new(P { d: D { x: 1, y: true }, s: S { a: 2, b: Box::new(3) }, l: Box::new(L::End) }))", "T::M(x)", "T::K(Box::new(9))", "let y = x.s.b;"), "1", undef, 0},
	})
}

// A block that holds its own Box is dropped over and over, as long as there is fuel.
func TestRing(t *testing.T) {
	u := typedOf(t, source("let mut l = Box::new(L::End); let r = &mut *l; *r = L::More(l); print(1); *r = L::End;"))
	for _, fuel := range []int{100, 100000} {
		if o, e := Run(u, nil, fuel); e != api.OK || !sameOutcome(o, api.Outcome{End: api.EndFuel, Out: []byte("1\n"), Steps: fuel}) {
			t.Error(o, e)
		}
	}
}

// A list of many Boxes is dropped, too.
func TestLongDrop(t *testing.T) {
	u := typedOf(t, source("let mut l = L::End; let mut i = 0; while i < 200000 { l = L::More(Box::new(l)); i = i + 1; } print(i);"))
	if o, e := Run(u, nil, 1<<40); e != api.OK || o.End != api.EndDone || string(o.Out) != "200000\n" || o.Steps != 1+2+2+1+200001*3+200000*(1+5+5)+3+200000 {
		t.Error(o, e)
	}
}

// 18.1: fuel of nought, and of each number of steps up to those that a run takes.
func TestFuel(t *testing.T) {
	u := typedOf(t, source("let b = Box::new(1); print(*b); { let e = E::C(b); match e { E::C(x) => { print(2); } _ => () } } print(1 / 0);"))
	whole, e := Run(u, nil, 1000)
	if e != api.OK || whole.End != api.EndDone || whole.Code != api.ExitDivide || string(whole.Out) != "1\n2\n" {
		t.Fatal(whole, e)
	}
	for fuel := range whole.Steps {
		o, e := Run(u, nil, fuel)
		if e != api.OK || o.End != api.EndFuel || o.Code != 0 || o.Steps != fuel || !strings.HasPrefix(string(whole.Out), string(o.Out)) {
			t.Error(fuel, o, e)
		}
	}
	if o, e := Run(u, nil, whole.Steps); e != api.OK || !sameOutcome(o, whole) {
		t.Error(o, e)
	}
	if o, e := Run(u, nil, 1<<63-1); e != api.OK || !sameOutcome(o, whole) {
		t.Error(o, e)
	}
}

// 18.1: MaxCalls calls in one another, and one more; main is one.
func TestCalls(t *testing.T) {
	u := typedOf(t, "fn f(n: i64) -> i64 { if n == 0 { 0 } else { 1 + f(n - 1) } } fn main() { print(f(998)); print(f(998)); print(f(999)); print(5); }")
	want := api.Outcome{End: api.EndFuel, Out: []byte("998\n998\n")}
	each := func(n int) int { return n*(1+1+3+1+1+1+4) + 1 + 1 + 3 + 2 } // a call of f and those in it, but for its argument
	want.Steps = 1 + 2*(2+1+1+each(998)) + 2 + 1 + 1 + 999*(1+1+3+1+1+1+4)
	if o, e := Run(u, nil, 1<<40); e != api.OK || !sameOutcome(o, want) {
		t.Error(o, e, want.Steps)
	}
	if MaxCalls != 1000 {
		t.Error(MaxCalls)
	}
	for n, end := range map[int64]int{0: api.EndDone, 999: api.EndDone, 1000: api.EndFuel} {
		v, o, e := Call(u, 0, []int64{n}, nil, 1<<40)
		if e != api.OK || o.End != end || end == api.EndDone && v != n || end == api.EndFuel && (v != 0 || o.Steps != 1000*12) {
			t.Error(n, v, o, e)
		}
	}
	// calls that came back, by return too, do not count
	u = typedOf(t, "fn f() { return; } fn main() { let mut i = 0; while i < 3000 { f(); i = i + 1; } print(i); }")
	if o, e := Run(u, nil, 1<<40); e != api.OK || o.End != api.EndDone || string(o.Out) != "3000\n" {
		t.Error(o, e)
	}
	// the arguments come ahead of the call that is one too many
	u = typedOf(t, "fn f(n: i64) { f({ print(n); n + 1 }); } fn main() { f(0); }")
	if o, e := Run(u, nil, 1<<40); e != api.OK || o.End != api.EndFuel || !strings.HasSuffix(string(o.Out), "997\n998\n") {
		t.Error(len(o.Out), o.End, e)
	}
}
