package eval

import "testing"

// 18.1: patterns that are tested, and what is bound.
func TestMatches(t *testing.T) {
	wantRows(t, []row{
		// steps: of the subject, of each pattern that is tested, of those within one whose variant it is
		{"match 2 { 1 => print(1), 2 => print(2), 3 => print(3) }", "2", done, 1 + 1 + 1 + 2 + 2}, {"match 2 { 1 => print(1), _ => print(2), 2 => print(3) }", "2", done, 7}, {"match 2 { 1 => print(1), x => print(x), 2 => print(3) }", "2", done, 7},
		{"match true { false => print(1), true => print(2) }", "2", done, 7}, {"match false { false => print(1), true => print(2) }", "1", done, 6}, {"match 1 == 2 { true => print(1), x => if !x { print(2) } else { } }", "2", done, 0}, {"match () { _ => print(1) }", "1", done, 6}, {"match () { x => x }", "", done, 1 + 1 + 1 + 1 + 1},
		{"match E::B(3) { E::A => print(1), E::B(x) => print(x), E::C(_) => print(2) }", "3", done, 1 + 1 + 2 + 1 + 2 + 2}, {"match E::B(3) { E::B(2) => print(1), E::B(3) => print(2), _ => print(3) }", "2", done, 1 + 1 + 2 + 2 + 2 + 2}, {"match O::W(E::B(7)) { O::Z => print(1), O::T(_) => print(2), O::W(E::A) => print(3), O::W(E::B(6)) => print(4), O::W(E::B(x)) => print(x), O::W(_) => print(5) }", "7", done, 1 + 1 + 3 + 1 + 1 + 2 + 3 + 3 + 2}, {"match O::T(false) { O::W(_) => print(1), O::T(true) => print(2), O::T(false) => print(3), O::Z => print(4) }", "3", done, 1 + 1 + 2 + 1 + 2 + 2 + 2},
		{"match E::A { E::B(_) => print(1), E::C(_) => print(2), E::A => print(3) }", "3", done, 1 + 1 + 1 + 3 + 2},
		// none that fits
		{"match 1 { 2 => (), 3 => () }", "", panicked, 5}, {"match E::A { E::B(_) => (), E::C(x) => eat(x) }", "", panicked, 5}, {"let b = Box::new(1); match E::C(b) { E::A => () }", "", panicked, 1 + 3 + 1 + 2 + 1}, {"match O::T(true) { O::T(false) => () }", "", panicked, 1 + 1 + 2 + 2},
		// a place as the subject: its own steps, and nothing is used of it by itself
		{"let x = 1; match x { 1 => print(x), _ => () }", "1", done, 1 + 2 + 1 + 1 + 1 + 2}, {"let b = Box::new(1); match b { _ => print(*b) }", "1", done, 1 + 3 + 1 + 1 + 1 + 3 + 1}, {"let b = Box::new(1); match b { x => print(*x) }", "1", done, 1 + 3 + 1 + 1 + 1 + 3 + 1}, {"let b = Box::new(1); match b { x => print(*b) }", "", undef, 1 + 3 + 1 + 1 + 1 + 3},
		{"let b = Box::new(1); match *b { 1 => print(1), _ => print(2) }", "1", done, 1 + 3 + 1 + 2 + 1 + 2 + 1}, {"let e = E::C(Box::new(1)); match e { E::C(b) => print(*b), _ => () }; match e { E::C(_) => print(2), _ => () }", "1 2", done, 0}, {"let e = E::C(Box::new(1)); match e { E::C(b) => print(*b), _ => () }; match e { E::C(c) => print(*c), _ => () }", "1", undef, 0}, {"let e = E::B(1); match e { E::B(x) => print(x), _ => () }; match e { E::B(x) => print(x), _ => () }", "1 1", done, 0},
		{"let e = E::C(Box::new(1)); match e { E::C(b) => print(*b), _ => () }; let f = e;", "1", undef, 0}, {"let e = E::C(Box::new(1)); let f = e; match e { E::A => (), _ => () }", "", undef, 1 + 4 + 2 + 1 + 1 + 1}, {"let e = E::C(Box::new(1)); let f = e; match e { _ => print(1) }", "1", done, 0}, {"let e = E::C(Box::new(1)); let f = e; match e { x => print(1) }", "", undef, 0}, {"let x = 1; match x { y => print(y + x) }", "2", done, 0},
		{"let mut e = E::C(Box::new(1)); match e { E::C(b) => { e = E::B(2); print(*b) } _ => () }; match e { E::B(x) => print(x), _ => () }", "1 2", done, 0},
		// a value as the subject: its temporary is dropped behind the match
		{"match Box::new(1) { _ => print(2) }", "2", done, 1 + 1 + 2 + 1 + 2 + 1}, {"match Box::new(1) { b => print(*b) }", "1", done, 1 + 1 + 2 + 1 + 3 + 1}, {"match E::C(Box::new(1)) { E::C(b) => print(*b), _ => () }", "1", done, 1 + 1 + 3 + 2 + 3 + 1}, {"match E::C(Box::new(1)) { E::C(_) => print(2), _ => () }", "2", done, 1 + 1 + 3 + 2 + 2 + 1}, {"match E::C(Box::new(1)) { _ => print(2) }", "2", done, 1 + 1 + 3 + 1 + 2 + 1},
		{"let b = match E::C(Box::new(1)) { E::C(b) => b, _ => new(2) }; print(*b);", "1", done, 1 + 1 + 1 + 3 + 2 + 1 + 4 + 1}, {"let r = match new(1) { _ => 5 }; print(r);", "5", done, 0},
		{"print(match 1 { x => match 2 { y => x * 10 + y } });", "12", done, 1 + 2 + 1 + 1 + 1 + (1 + 1 + 1 + 5)},
	})
}

// 18.1: matches of references.
func TestMatchesOfReferences(t *testing.T) {
	wantRows(t, []row{
		{"let a = 1; match &a { 1 => print(1), _ => print(2) }", "1", done, 1 + 2 + 1 + 2 + 1 + 2}, {"let a = 1; match &a { x => print(*x) }", "1", done, 1 + 2 + 1 + 2 + 1 + 3}, {"let c = true; match &c { true => print(1), _ => print(2) }", "1", done, 0},
		{"let e = E::C(Box::new(7)); match &e { E::A => (), E::C(b) => print(**b), _ => () }; match e { E::C(b) => print(*b), _ => () }", "7 7", done, 0}, {"let e = E::B(7); let r = &e; match r { E::B(x) => print(*x), _ => () }; match r { E::B(x) => print(*x + 1), _ => () }", "7 8", done, 0},
		{"let mut e = E::B(7); match &mut e { E::B(x) => { *x = *x + 1; } _ => () }; match e { E::B(x) => print(x), _ => () }", "8", done, 0}, {"let mut o = O::W(E::B(1)); match &mut o { O::W(E::B(x)) => { *x = 5; } _ => () }; match o { O::W(E::B(x)) => print(x), _ => () }", "5", done, 0}, {"let mut o = O::W(E::B(1)); match &mut o { O::W(e) => { *e = E::C(Box::new(9)); } _ => () }; match o { O::W(E::C(x)) => print(*x), _ => () }", "9", done, 0},
		// & is copied, &mut is moved, by the whole pattern's variable; by _ and by what stands within neither
		{"let e = E::B(7); let r = &e; match r { x => () }; match r { E::B(x) => print(*x), _ => () }", "7", done, 0}, {"let mut e = E::B(7); let r = &mut e; match r { x => () }; match r { E::B(x) => print(*x), _ => () }", "", undef, 0}, {"let mut e = E::B(7); let r = &mut e; match r { _ => () }; match r { E::B(x) => print(*x), _ => () }", "7", done, 0}, {"let mut e = E::B(7); let r = &mut e; match r { E::B(x) => { *x = 8; } _ => () }; match r { E::B(x) => print(*x), _ => () }", "8", done, 0}, {"let mut e = E::B(7); let r = &mut e; match r { x => { *x = E::B(8); } }; match e { E::B(x) => print(x), _ => () }", "8", done, 0},
		// the pointer is followed ahead of each pattern that is neither _ nor a variable, and ahead of its step
		{"fn f(x: E) -> &E { &x } fn main() { match f(E::A) { _ => print(1) } }", "1", done, 0}, {"fn f(x: E) -> &E { &x } fn main() { match f(E::A) { x => print(1) } }", "1", done, 0}, {"fn f(x: E) -> &E { &x } fn main() { match f(E::A) { E::A => print(1), _ => () } }", "", undef, 1 + 1 + 2 + 3}, {"fn f(x: i64) -> &i64 { &x } fn main() { match f(1) { 1 => print(1), _ => () } }", "", undef, 1 + 1 + 2 + 3}, {"fn f(x: i64) -> &i64 { &x } fn main() { let r = f(1); match r { 1 => print(1), _ => () } }", "", undef, 1 + 1 + 2 + 3 + 1 + 1},
		{"let mut e = E::A; let r = &mut e; let q = r; match r { _ => print(1) }; match r { E::A => print(2), _ => () }", "1", undef, 1 + 2 + 3 + 2 + (1 + 1 + 1 + 1 + 2) + (1 + 1)}, {"let a = 1; match &a { 2 => (), 3 => (), _ => print(4) }", "4", done, 1 + 2 + 1 + 2 + 3 + 2},
		// through Boxes there is no pattern, but a place behind one is one
		{"let b = Box::new(E::B(3)); match *b { E::B(x) => print(x), _ => () }", "3", done, 0}, {"let b = Box::new(E::C(Box::new(3))); match *b { E::C(x) => print(*x), _ => () }", "3", done, 0}, {"let b = Box::new(E::C(Box::new(3))); match &*b { E::C(x) => print(**x), _ => () }; match *b { E::C(x) => print(*x), _ => () }", "3 3", done, 0},
		{"fn s(l: &L) -> i64 { match l { L::End => 0, L::More(b) => 1 + s(&**b) } } fn main() { let l = L::More(Box::new(L::More(Box::new(L::End)))); print(s(&l)); print(s(&l)); }", "2 2", done, 0},
	})
}

// 18.1: what is undefined, for it was moved: wholly, in part, by a match, in one round of a loop, in one branch.
func TestMoved(t *testing.T) {
	wantRows(t, []row{
		{"let b = Box::new(1); let c = b; print(*b);", "", undef, 1 + 3 + 2 + 4}, {"let b = Box::new(1); let c = b; print(2); let d = b;", "2", undef, 1 + 3 + 2 + 3 + 2}, {"let b = Box::new(1); eat(b); eat(b);", "", undef, 0}, {"let s = S { a: 1, b: Box::new(2) }; let q = s; print(s.a);", "", undef, 0}, {"let d = D { x: 1, y: true }; let e = d; print(e.x); print(d.x);", "1", undef, 0}, {"let e = E::A; let f = e; let g = e;", "", undef, 0}, {"let mut a = 1; let r = &mut a; let q = r; *q = 2; *r = 3;", "", undef, 0}, {"let mut a = 1; let r = &mut a; let q = r; let p = r;", "", undef, 0},
		{"let s = S { a: 1, b: Box::new(2) }; let b = s.b; print(s.a); print(*s.b);", "1", undef, 0}, {"let s = S { a: 1, b: Box::new(2) }; let b = s.b; print(s.a); let q = s;", "1", undef, 0}, {"let p = P { d: D { x: 1, y: true }, s: S { a: 2, b: Box::new(3) }, l: Box::new(L::End) }; let d = p.d; print(p.s.a); let s = p.s; print(*s.b); print(p.d.x);", "2 3", undef, 0}, {"let b = Box::new(Box::new(1)); let c = *b; print(*c); print(**b);", "1", undef, 0}, {"let b = Box::new(Box::new(1)); let c = *b; let d = b; print(1);", "1", done, 0}, {"let b = Box::new(S { a: 1, b: Box::new(2) }); let c = b.b; print(b.a); print(*b.b);", "1", undef, 0}, {"let b = Box::new(1); let r = &b; let c = *r; print(*c); print(*b);", "1", undef, 0},
		{"let b = Box::new(1); if true { let c = b; } print(2); *b;", "2", undef, 0}, {"let b = Box::new(1); if false { let c = b; } print(*b);", "1", done, 0}, {"let mut b = Box::new(1); if true { let c = b; b = Box::new(2); } print(*b);", "2", done, 0},
		// what has no words, or is copied, is never gone
		{"let n = N { }; let m = n; let k = n; let l = k; print(1);", "1", done, 0}, {"let a = 1; let b = a; let c = a; let r = &a; let q = r; let p = r; print(*p + *q);", "2", done, 0}, {"let u = (); let v = u; let w = u; w", "", done, 0}, {"let b = Box::new(1); let c = b; let r = &b; print(1);", "1", done, 0}, {"let b = Box::new(1); let c = b; let r = &b; let q = r; print(**q);", "", undef, 0},
	})
}

// 18.1: what is undefined, for it points to what has ended.
func TestDangling(t *testing.T) {
	wantRows(t, []row{
		{"let k = 5; let mut p = &k; { let x = 1; p = &x; } print(2); print(*p);", "2", undef, 0}, {"let k = 5; let mut p = &k; { let x = 1; p = &x; print(*p); } p = &k; print(*p);", "1 5", done, 0}, {"let k = 5; let mut p = &k; { let b = Box::new(1); p = &*b; } print(*p);", "", undef, 0}, {"let b = Box::new(1); let r = &*b; eat(b); print(2); print(*r);", "2", undef, 0}, {"let b = Box::new(1); let r = &*b; let c = b; print(*r);", "1", done, 0}, {"let b = Box::new(1); let r = &b; let c = b; print(1); print(**r);", "1", undef, 0},
		{"let mut b = Box::new(1); let r = &mut *b; let c = b; *r = 7; print(*c);", "7", done, 0}, {"let mut b = Box::new(Box::new(1)); let r = &**b; *b = Box::new(2); print(3); *r;", "3", undef, 0}, {"let s = S { a: 1, b: Box::new(2) }; let r = &s.a; let q = s; print(3); print(*r);", "3", undef, 0}, {"let mut k = 5; let mut p = &mut k; { let mut x = 1; p = &mut x; } *p = 2;", "", undef, 0},
		{"let k = D { x: 1, y: true }; let mut p = &k; { let d = D { x: 2, y: true }; p = &d; } print(p.x);", "", undef, 0}, {"let k = 5; let mut p = &k; match 6 { x => { p = &x; } }; print(*p);", "", undef, 0},
		{"let a = new(1); let mut p = &*a; match new(2) { b => { p = &*b; print(*p); } }; *p;", "2", undef, 0}, {"let e = E::A; let mut p = &e; match O::W(E::B(1)) { o => { match &o { O::W(x) => { p = x; } _ => () } match p { E::B(y) => print(*y), _ => () } } }; match p { E::A => (), _ => () }", "1", undef, 0},
		// a dangling reference alone is not undefined, nor its copies
		{"let k = 5; let mut p = &k; { let x = 1; p = &x; } let q = p; print(1);", "1", done, 0}, {"let u = (); let mut p = &u; { let v = (); p = &v; *p } let q = p; print(1); *p", "1", undef, 0}, {"fn f() -> &N { let n = N { }; &n } fn main() { let r = f(); print(1); *r; }", "1", undef, 0}, {"fn f() -> &D { let n = D { x: 1, y: true }; &n } fn main() { let r = f(); print(1); let q = &r.x; }", "1", undef, 0},
	})
}
