package eval

import "testing"

// 18.1: how arithmetic ends a program, at its edges.
func TestEnds(t *testing.T) {
	wantRows(t, []row{
		{"print(1); panic(); print(2);", "1", panicked, 1 + 3 + 2}, {"panic()", "", panicked, 2}, {"print(1); match 3 { 1 => (), 2 => () }", "1", panicked, 1 + 3 + 2 + 2}, {"match 3 { };", "", panicked, 4},
		{"print(big() + 1);", "", over, 8}, {"print(big() + 0); print(big() - 1 + 1);", "9223372036854775807 9223372036854775807", done, 0}, {"print(1 + big());", "", over, 0}, {"print(least() + -1);", "", over, 0}, {"print(-1 + least());", "", over, 0}, {"print(least() + big());", "-1", done, 0}, {"print(big() + big());", "", over, 0}, {"print(least() + least());", "", over, 0}, {"print(least() + 0); print(0 + least());", "-9223372036854775808 -9223372036854775808", done, 0},
		{"print(least() - 1);", "", over, 0}, {"print(big() - -1);", "", over, 0}, {"print(0 - least());", "", over, 0}, {"print(-1 - least());", "9223372036854775807", done, 0}, {"print(least() - least());", "0", done, 0}, {"print(big() - big());", "0", done, 0}, {"print(least() - -1);", "-9223372036854775807", done, 0}, {"print(0 - big() - 1);", "-9223372036854775808", done, 0}, {"print(big() - least());", "", over, 0}, {"print(-2 - big());", "", over, 0}, {"print(-1 - big());", "-9223372036854775808", done, 0}, {"print(least() - 0);", "-9223372036854775808", done, 0},
		{"print(big() * 1); print(big() * -1); print(least() * 1); print(least() * 0); print(0 * least());", "9223372036854775807 -9223372036854775807 -9223372036854775808 0 0", done, 0}, {"print(big() * 2);", "", over, 0}, {"print(least() * -1);", "", over, 0}, {"print(-1 * least());", "", over, 0}, {"print(least() * 2);", "", over, 0}, {"print(2 * least());", "", over, 0}, {"print(4294967296 * 2147483648);", "", over, 0}, {"print(4294967296 * -2147483648);", "-9223372036854775808", done, 0}, {"print(-4294967296 * 2147483648);", "-9223372036854775808", done, 0}, {"print(4294967296 * 2147483647);", "9223372032559808512", done, 0}, {"print(3037000500 * 3037000500);", "", over, 0}, {"print(3037000499 * 3037000499);", "9223372030926249001", done, 0}, {"print(-3037000500 * 3037000500);", "", over, 0}, {"print(big() * big());", "", over, 0}, {"print(least() * least());", "", over, 0}, {"print(4611686018427387904 * -2);", "-9223372036854775808", done, 0}, {"print(4611686018427387904 * 2);", "", over, 0}, {"print(-3 * 5); print(3 * -5); print(-3 * -5); print(-1 * 5); print(1 * least()); print(-1 * big());", "-15 -15 15 -5 -9223372036854775808 -9223372036854775807", done, 0},
		{"print(-least());", "", over, 0}, {"print(-big()); print(-0);", "-9223372036854775807 0", done, 0},
		{"print(1 / 0);", "", divide, 6}, {"print(1 % 0);", "", divide, 6}, {"print(0 / 0);", "", divide, 0}, {"print(least() / 0);", "", divide, 0}, {"print(least() % 0);", "", divide, 0}, {"print(least() / -1);", "", over, 0}, {"print(least() % -1);", "", over, 0}, {"print(least() / 1); print(least() % 1); print(big() / -1); print(big() % -1); print(least() / least()); print(least() % 10); print((least() + 1) / -1);", "-9223372036854775808 0 -9223372036854775807 0 1 -8 9223372036854775807", done, 0}, {"print(0 / -1); print(0 % -1);", "0 0", done, 0},
		// no scope ends with the program
		{"let b = Box::new(1); let c = Box::new(2); panic();", "", panicked, 1 + 3 + 3 + 2}, {"let b = Box::new(1); print(1 / 0);", "", divide, 1 + 3 + 5}, {"fn f() -> i64 { let b = Box::new(1); panic() } fn main() { let c = Box::new(2); while true { print(f()); } }", "", panicked, 0},
	})
}

// 18.1: each order of evaluation.
func TestOrders(t *testing.T) {
	wantRows(t, []row{
		{"say(1) + say(2) * say(3);", "1 2 3", done, 0}, {"(say(1) + say(2)) * say(3);", "1 2 3", done, 0}, {"say(1) < say(2);", "1 2", done, 0}, {"say(1) == say(2);", "1 2", done, 0}, {"say(1) / 0 + say(2);", "1", divide, 0}, {"1 / say(0) + say(2);", "0", divide, 0}, {"say(7) / say(0);", "7 0", divide, 0}, {"yes(1) == no(2);", "1 2", done, 0},
		{"fn f(a: i64, b: i64, c: i64) { print(c); print(b); print(a); } fn main() { f(say(1), say(2), say(3)); }", "1 2 3 3 2 1", done, 0},
		{"let p = P { s: S { b: Box::new(say(1)), a: say(2) }, l: Box::new(L::End), d: D { y: yes(3), x: say(4) } }; print(p.d.x); print(p.s.a); print(*p.s.b);", "1 2 3 4 4 2 1", done, 0},
		{"let e = E::C(new(say(1))); print(2);", "1 2", done, 0},
		// the value of a KSet ahead of its place
		{"let mut b = Box::new(1); let r = &mut b; *{ print(2); &mut *r } = Box::new(say(1));", "1 2", done, 0}, {"let mut a = 1; let mut b = 2; *(if yes(9) { &mut a } else { &mut b }) = say(3); print(a); print(b);", "3 9 3 2", done, 0}, {"let mut b = Box::new(1); *b = { b = Box::new(2); print(*b); 3 }; print(*b);", "2 3", done, 0}, {"let mut b = Box::new(1); *b = { eat(b); 3 };", "", undef, 0},
		// the condition ahead of the branches, the subject ahead of the arms
		{"if yes(1) { print(2); } else { print(3); }", "1 2", done, 0}, {"match say(1) { 1 => print(2), _ => print(3) }", "1 2", done, 0}, {"while no(1) { print(2); } while yes(3) { print(4); break; }", "1 3 4", done, 0},
		// what a block tells ahead of the drop of its variables
		{"print({ let b = new(5); *b });", "5", done, 0}, {"let r = { let b = new(5); &*b }; print(1); *r;", "1", undef, 0},
	})
}

// 18.1: let, the scopes of names, and blocks.
func TestLet(t *testing.T) {
	wantRows(t, []row{
		{"let x = 1; let x = x + 1; { let x = x + 1; print(x); } print(x);", "3 2", done, 0}, {"let x = 1; let y = { let x = 2; x + 1 }; print(x + y);", "4", done, 0}, {"let x: i64 = 1; print(x);", "1", done, 6}, {"let mut i = 0; while i < 3 { let x = i * 2; i = i + 1; print(x); }", "0 2 4", done, 0}, {"let u = (); let v = u; u; v", "", done, 8},
		{"let b = Box::new(1);", "", done, 1 + 3 + 1}, {"let b = new(1);", "", done, 1 + 3 + 3 + 1}, {"let s = S { a: 1, b: Box::new(2) };", "", done, 1 + 5 + 1}, {"let d = D { x: 1, y: true }; let e = d; print(e.x);", "1", done, 1 + 4 + 2 + 4},
	})
}

// 18.1: what a KDo tells is dropped.
func TestDo(t *testing.T) {
	wantRows(t, []row{
		{"Box::new(1);", "", done, 1 + 3 + 1}, {"Box::new(Box::new(1));", "", done, 1 + 4 + 2}, {"S { a: 1, b: Box::new(2) };", "", done, 1 + 5 + 1}, {"E::C(Box::new(1));", "", done, 1 + 4 + 1}, {"E::B(1);", "", done, 1 + 3}, {"O::W(E::C(new(1)));", "", done, 1 + 8 + 1}, {"L::More(Box::new(L::More(Box::new(L::End))));", "", done, 1 + 6 + 2}, {"T::M(Box::new(P { d: D { x: 1, y: true }, s: S { a: 1, b: Box::new(2) }, l: Box::new(L::End) }));", "", done, 1 + 13 + 3}, {"T::I(1);", "", done, 4},
		{"let b = Box::new(1); b; print(2);", "2", done, 1 + 3 + 2 + 1 + 3}, {"let b = Box::new(1); b; b;", "", undef, 1 + 3 + 2 + 1 + 2}, {"let b = Box::new(1); b; *b;", "", undef, 1 + 3 + 2 + 1 + 3}, {"let b = Box::new(1); &b; *b; print(*b);", "1", done, 1 + 3 + 3 + 3 + 4 + 1}, {"let b = Box::new(1); let r = &b; *r; print(*b);", "", undef, 0}, {"let s = S { a: 1, b: Box::new(2) }; s.b; print(s.a);", "1", done, 1 + 5 + 3 + 1 + 4}, {"let s = S { a: 1, b: Box::new(2) }; s.a; print(*s.b);", "2", done, 1 + 5 + 3 + 5 + 1},
	})
}

// 18.1: what a KSet does to what was there.
func TestSet(t *testing.T) {
	wantRows(t, []row{
		{"let mut a = 1; a = 2; print(a);", "2", done, 1 + 2 + 3 + 3}, {"let mut b = Box::new(1); b = Box::new(2); print(*b);", "2", done, 1 + 3 + 4 + 1 + 4 + 1}, {"let mut b = Box::new(1); *b = 2; print(*b);", "2", done, 1 + 3 + 4 + 4 + 1}, {"let mut b = Box::new(Box::new(1)); *b = Box::new(2); print(**b);", "2", done, 1 + 4 + 5 + 1 + 5 + 2},
		{"let mut b = Box::new(1); let c = b; b = Box::new(2); print(*b + *c);", "3", done, 1 + 3 + 2 + 4 + 7 + 2}, {"let mut s = S { a: 1, b: Box::new(2) }; let c = s.b; s.b = Box::new(3); print(*s.b + *c);", "5", done, 0}, {"let mut s = S { a: 1, b: Box::new(2) }; let c = s.b; s.a = 5; print(s.a);", "5", done, 0}, {"let mut s = S { a: 1, b: Box::new(2) }; let c = s; s.a = 5; print(s.a); s.b = Box::new(4); let d = s; print(*d.b);", "5 4", done, 0},
		{"let mut s = S { a: 1, b: Box::new(2) }; let c = s.b; s = S { a: 3, b: Box::new(4) }; print(s.a + *s.b + *c);", "9", done, 1 + 5 + 3 + 6 + 11 + 2}, {"let mut e = E::C(Box::new(1)); e = E::A; e = E::C(Box::new(2)); e = E::B(3);", "", done, 1 + 4 + 3 + 1 + 5 + 4 + 1}, {"let mut l = L::More(Box::new(L::More(Box::new(L::End)))); l = L::End;", "", done, 1 + 6 + 3 + 2},
		{"let mut b = Box::new(1); b = b; print(*b);", "1", done, 1 + 3 + 3 + 4 + 1}, {"let mut s = S { a: 1, b: Box::new(2) }; s.b = s.b; s = s; print(*s.b);", "2", done, 0}, {"let mut a = 1; let r = &mut a; *r = *r + 1; a = a + *r; print(a);", "4", done, 0}, {"let mut p = S { a: 1, b: Box::new(2) }; let r = &mut p; r.a = 7; *r.b = 8; r.b = Box::new(*r.b + 1); print(p.a); print(*p.b);", "7 9", done, 0},
		{"let mut b = Box::new(1); let r = &mut b; *r = Box::new(2); print(**r); print(*b);", "2 2", done, 0}, {"let mut b = Box::new(1); let r = &*b; b = Box::new(2); print(*r);", "", undef, 1 + 3 + 4 + 4 + 1 + 4}, {"let mut b = Box::new(1); let r = &mut *b; b = Box::new(2); *r = 3;", "", undef, 1 + 3 + 4 + 4 + 1 + 4}, {"let mut b = Box::new(1); let c = b; *b = 2;", "", undef, 1 + 3 + 2 + 4},
		{"let mut u = (); u = (); u", "", done, 1 + 2 + 3 + 1},
	})
}

// 18.1: while, break and continue, with the scopes that they end.
func TestLoops(t *testing.T) {
	wantRows(t, []row{
		{"while false { }", "", done, 3}, {"let mut i = 0; while i < 2 { print(i); i = i + 1; }", "0 1", done, 1 + 2 + 1 + 3*3 + 2*(1+3+5)}, {"while true { break; }", "", done, 1 + 1 + 1 + 2}, {"let mut i = 0; while i < 3 { i = i + 1; if i == 2 { continue; } print(i); }", "1 3", done, 0}, {"let mut i = 0; while true { i = i + 1; if i == 3 { break; } print(i); } print(9);", "1 2 9", done, 0},
		{"let mut i = 0; while i < 2 { i = i + 1; let mut j = 0; while true { j = j + 1; if j == 2 { continue; } if j == 4 { break; } print(i * 10 + j); } }", "11 13 21 23", done, 0},
		// a condition is in the block of the outer loop alone
		{"let mut i = 0; while i < 3 { i = i + 1; while { if i == 2 { continue; } if i == 3 { break; } false } { } print(i); } print(i);", "1 3", done, 0},
		// drops, seen by steps: of a block's end, a break, a continue
		{"while true { let b = Box::new(1); break; }", "", done, 1 + 1 + 1 + 1 + 3 + 1 + 1}, {"let mut i = 0; while i < 2 { i = i + 1; let b = Box::new(i); continue; }", "", done, 1 + 2 + 1 + 3*3 + 2*(1+5+3+1+1)}, {"let mut i = 0; while i < 2 { i = i + 1; let b = Box::new(i); }", "", done, 1 + 2 + 1 + 3*3 + 2*(1+5+3+1)}, {"let c = Box::new(0); while true { let b = Box::new(1); if true { let d = Box::new(2); break; } } print(*c);", "0", done, 0},
		{"while true { match Box::new(1) { b => { let c = Box::new(2); break; } } }", "", done, 1 + 1 + 1 + 1 + (1 + 2 + 1) + (1 + 3 + 1) + 2},
		// in one round the variable is another one than in the next
		{"let a = 0; let mut r = &a; let mut i = 0; while i < 2 { let x = i; print(*r); r = &x; i = i + 1; }", "0", undef, 0}, {"let mut i = 0; while i < 2 { let b = Box::new(i); let c = b; i = i + 1; print(*c); }", "0 1", done, 0}, {"let b = Box::new(1); let mut i = 0; while i < 2 { i = i + 1; print(i); let c = b; }", "1 2", undef, 0}, {"let b = Box::new(1); let mut i = 0; while i < 2 { i = i + 1; print(i); let c = b; break; }", "1", done, 0},
		// the KWhile's own step once, of those within once a round
		{"let mut i = 0; while i < 2 { i = i + 1; while false { } }", "", done, 1 + 2 + 1 + 3*3 + 2*(1+5+2)},
		{"fn f() -> i64 { while true { while true { return 7; } } 8 } fn main() { print(f()); while true { print(f()); break; } }", "7 7", done, 0},
	})
}

// 18.1: returns, and the scopes that they end.
func TestReturns(t *testing.T) {
	wantRows(t, []row{
		{"struct Z { a: i64, u: (), b: i64 } fn nine() -> i64 { return 9; } fn early() { nine(); return; } fn main() { let z = Z { b: 1, a: 2, u: early() }; print(z.a); print(z.b); early() }", "2 1", done, 0},
		{"return; print(1);", "", done, 2}, {"return ();", "", done, 3}, {"print(1); return print(2); print(3);", "1 2", done, 0}, {"fn f(x: i64) -> i64 { if x > 0 { return x; } -x } fn main() { print(f(3)); print(f(-4)); }", "3 4", done, 0}, {"fn f() -> i64 { return { return 1; }; } fn main() { print(f()); }", "1", done, 0}, {"fn f() -> i64 { return 1 + { return 2; 3 }; } fn main() { print(f()); }", "2", done, 0},
		{"let b = Box::new(1); { let c = Box::new(2); return; }", "", done, 1 + 3 + 1 + 3 + 1 + 2}, {"fn f(b: Box<i64>, c: Box<i64>) { return; } fn main() { f(Box::new(1), Box::new(2)); }", "", done, 1 + 2 + 4 + 2 + 2}, {"fn f(b: Box<i64>) -> Box<i64> { let c = new(2); return b; } fn main() { let b = f(new(1)); print(*b); }", "1", done, 0},
		// the value, then the drops: of a reference into what is dropped, it is undefined when it is followed
		{"fn f() -> i64 { let b = Box::new(5); return *b; } fn main() { print(f()); }", "5", done, 0}, {"fn f(x: i64) -> &i64 { return &x; } fn main() { f(1); print(2); }", "2", done, 0}, {"fn f(x: i64) -> &i64 { return &x; } fn main() { print(2); *f(1); }", "2", undef, 0}, {"fn f(x: i64) -> &i64 { &x } fn main() { let r = f(1); print(2); print(*r); }", "2", undef, 0},
		// out of arms, matches with temporaries, and loops
		{"fn f() -> i64 { while true { match Box::new(1) { b => { let c = Box::new(2); return *b + *c; } } } 0 } fn main() { print(f()); }", "3", done, 1 + 2 + 1 + 1 + 1 + 1 + 1 + (1 + 2 + 1) + (1 + 3) + (1 + 5) + 2},
		{"fn f() -> i64 { match Box::new(1) { _ => { return 2; } } } fn main() { print(f()); }", "2", done, 1 + 2 + 1 + 1 + (1 + 2 + 1) + (1 + 2) + 1}, {"fn f(e: E) -> i64 { match e { E::C(b) => return_of(b), _ => 0 } } fn return_of(b: Box<i64>) -> i64 { return *b; } fn main() { print(f(E::C(new(3)))); }", "3", done, 0},
		// a value that was told ahead and is left behind is not dropped
		{"fn two(b: Box<i64>, x: i64) { } fn main() { two(Box::new(1), { if true { return; } 2 }); }", "", done, 1 + 2 + 2 + 1 + (1 + 1 + 1 + 1 + 1)}, {"while true { eat({ let b = Box::new(1); if true { break; } b }); }", "", done, 0}, {"let s = S { b: Box::new(1), a: { if true { return; } 2 } };", "", done, 0},
	})
}
