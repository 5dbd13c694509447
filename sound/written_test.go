package sound

import (
	"testing"

	"patina/api"
	"patina/drops"
	"patina/loans"
	"patina/moves"
)

const ofTypes = "struct S { a: i64, b: Box<i64> } struct D { x: Box<i64>, y: Box<i64> } struct P { d: D, e: E, l: Box<L> } enum E { A, B(i64), C(S) } enum L { End, More(N) } struct N { v: i64, next: Box<L> } enum O { W(E), T(bool), K(Box<D>) } "

const functions = "fn sum(l: &L) -> i64 { match l { L::End => 0, L::More(n) => n.v + sum(&*n.next) } } " +
	"fn list(n: i64) -> L { if n == 0 { L::End } else { L::More(N { v: n, next: Box::new(list(n - 1)) }) } } " +
	"fn last(l: &mut L) -> &mut L { let mut p = &mut *l; while true { match p { L::End => { return p; }, L::More(n) => { p = &mut *n.next; } } } panic() } " +
	"fn pair() -> D { D { x: Box::new(1), y: Box::new(2) } } fn take(b: Box<i64>) -> i64 { *b } fn choose(c: bool, a: Box<i64>, b: Box<i64>) -> Box<i64> { if c { return a; } b } " +
	"fn at(c: bool, x: &i64, y: &i64) -> &i64 { if c { x } else { y } } "

// 23.3, 23.4, 24.5, P4, P7: sources of each kind that are taken; in main of those that are marked something is dropped on edges.
func TestTaken(t *testing.T) {
	count := ends{}
	for _, c := range []struct {
		edges bool
		body  string
	}{
		{true, "let b = Box::new(1); if read() == 0 { let d = b; print(*d); } print(2);"}, {true, "let b = Box::new(1); if read() == 0 { print(*b); } else { let d = b; } print(2);"}, {false, "let b = Box::new(1); if read() == 0 { let d = b; } else { let e = b; }"}, {true, "let b = Box::new(1); if read() == 0 { let d = b; return; } print(*b); if read() < 0 { take(b); }"}, {false, "let b = Box::new(1); let c = Box::new(2); print(take(choose(read() == 0, b, c)));"},
		{false, "let mut b = Box::new(1); let mut i = 0; while i < 3 { if read() == 0 { let d = b; b = Box::new(i); } i = i + 1; } print(*b);"}, {false, "let mut b = Box::new(1); let mut i = 0; while i < 3 { let d = b; b = Box::new(*d + i); i = i + 1; } print(*b);"}, {true, "let b = Box::new(1); let mut i = 0; while i < 3 { i = i + 1; if i == 2 { let d = b; break; } continue; } print(i);"}, {false, "let mut i = 0; while i < 4 { let b = Box::new(i); i = i + 1; if i == 2 { continue; } if i == 3 { break; } print(*b); }"},
		{true, "let d = pair(); if read() == 0 { let x = d.x; } print(1);"}, {true, "let d = pair(); if read() == 0 { let x = d.x; } else { let y = d.y; } print(1);"}, {true, "let d = pair(); if read() == 0 { let x = d.x; } else { let e = d; } print(1);"}, {false, "let d = pair(); let x = d.x; print(*x); print(*d.y);"}, {true, "let mut d = pair(); if read() == 0 { let x = d.x; d.x = Box::new(7); } else { let y = d.y; } print(*d.x);"}, {true, "let b = Box::new(pair()); if read() == 0 { let x = (*b).x; } print(3);"}, {true, "let b = Box::new(pair()); if read() == 0 { let d = *b; } else { let e = b; } print(3);"}, {false, "let b = Box::new(pair()); let d = *b; print(*d.x);"},
		{true, "let e = E::C(S { a: 1, b: Box::new(2) }); match e { E::C(s) => print(*s.b), E::B(n) => print(n), E::A => { } } print(4);"}, {true, "let e = E::C(S { a: 1, b: Box::new(2) }); if read() == 0 { match e { E::C(s) => print(s.a), _ => { } } } print(4);"}, {true, "let o = O::W(E::C(S { a: 1, b: Box::new(2) })); match o { O::W(E::C(s)) => print(*s.b), O::W(x) => { }, O::T(c) => { }, O::K(d) => print(*d.x) } print(4);"}, {true, "let o = O::K(Box::new(pair())); match o { O::K(d) => { let x = (*d).x; print(*x); }, _ => { } } print(4);"}, {false, "let o = O::K(Box::new(pair())); match &o { O::K(d) => print(*d.y), O::T(c) => { }, _ => print(0) } let q = o;"}, {true, "let p = P { d: pair(), e: E::B(3), l: Box::new(list(2)) }; if read() == 0 { match p.e { E::C(s) => { }, _ => { } } } let d = p.d; print(sum(&*p.l));"},
		{false, "let l = list(5); print(sum(&l)); print(sum(&l));"}, {true, "let l = list(5); if read() == 0 { match l { L::More(n) => print(n.v), L::End => { } } } print(1);"}, {false, "let mut l = list(3); { let p = last(&mut l); *p = list(2); } print(sum(&l));"}, {false, "let mut l = list(3); let mut go = true; while go { match l { L::End => { l = L::End; go = false; }, L::More(n) => { l = *n.next; } } } print(sum(&l));"},
		{false, "let mut a = 1; let mut b = 2; { let r = at(read() == 0, &a, &b); print(*r); } a = 3; b = 4; print(a + b);"}, {false, "let mut d = pair(); let x = &mut d.x; let y = &mut d.y; *x = Box::new(5); **y = 6; print(*d.x + *d.y);"}, {false, "let mut s = S { a: 1, b: Box::new(2) }; let r = &mut s; r.a = 5; *r.b = 6; r.b = Box::new(7); print(s.a + *s.b);"}, {true, "let mut e = E::C(S { a: 1, b: Box::new(2) }); match &mut e { E::C(s) => { s.b = Box::new(9); *s.b = *s.b + 1; }, _ => { } } match e { E::C(s) => print(*s.b), _ => { } }"}, {false, "let mut n = 1; let mut r = &mut n; let mut i = 0; while i < 3 { r = &mut *r; *r = *r + i; i = i + 1; } print(n);"},
		{false, "let b = Box::new(1); panic();"}, {false, "let b = Box::new(read()); print(1 / *b);"}, {false, "let b = Box::new(9223372036854775807); print(*b + 2 + read());"}, {false, "let mut b = Box::new(Box::new(1)); *b = Box::new(2); let c = *b; *b = Box::new(3); print(*c + **b);"}, {true, "let mut b = Box::new(Box::new(1)); if read() == 0 { let c = *b; print(*c); } else { print(**b); } print(0);"}, {true, "let x = { let b = Box::new(4); let c = Box::new(5); if read() == 0 { b } else { c } }; print(*x);"}, {false, "while true { }"}, {false, "let mut i = 0; while true { let b = Box::new(i); i = i + 1; }"},
	} {
		p, right := programOf(ofTypes + functions + "fn main() { " + c.body + " }")
		if !right || !p.isTaken() {
			t.Error(c.body, right, moves.Check(p.built), loans.Check(p.made))
			continue
		}
		p.wantDefinite(t)
		l, e := drops.Edges(p.built, len(p.built.Fns)-1)
		if e != api.OK || c.edges != (len(l) > 0) {
			t.Error(c.body, l, e)
		}
		for _, in := range [][]byte{nil, {0}, {0, 0, 0}, {1, 0}, {255}} {
			p.wantSound(t, in, count)
		}
	}
	for _, end := range [][2]int{{api.EndDone, api.ExitDone}, {api.EndDone, api.ExitPanic}, {api.EndDone, api.ExitDivide}, {api.EndDone, api.ExitOverflow}, {api.EndFuel, 0}} {
		if count[end] == 0 {
			t.Error("never:", end)
		}
	}
}

// P6, so far as these layers go: what is not taken, and which of them tells it first.
func TestRefused(t *testing.T) {
	for body, want := range map[string]api.Errno{
		"let b = Box::new(1); let c = b; print(*b);": api.ErrMoved, "let b = Box::new(1); if read() == 0 { let d = b; } print(*b);": api.ErrMoved, "let d = pair(); let x = d.x; let e = d;": api.ErrMoved, "let l = list(1); let r = &l; match r { L::End => { }, L::More(n) => { let m = *n.next; } }": api.ErrMoveOut,
		"let mut a = 1; let r = &mut a; a = 2; print(*r);": api.ErrBorrow, "let b = Box::new(1); let r = &*b; let c = b; print(*r);": api.ErrBorrow, "let k = 1; let mut r = &k; { let x = 2; r = &x; } print(*r);": api.ErrGone, "let mut l = list(2); let p = last(&mut l); l = L::End; *p = L::End;": api.ErrGone,
	} {
		p, right := programOf(ofTypes + functions + "fn main() { " + body + " }")
		got := moves.Check(p.built).Code
		if got == api.OK {
			got = loans.Check(p.made).Code
		}
		if !right || got != want {
			t.Error(body, right, got, want)
		}
	}
}
