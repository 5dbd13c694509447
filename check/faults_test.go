package check

import (
	"strconv"
	"strings"
	"testing"

	"patina/api"
	"patina/items"
	"patina/parse"
)

// ahead are items that bodies of g may name; then its parameters, and some variables.
const ahead = "struct S { a: i64, b: Box<i64> } struct P { s: S, q: bool, l: Box<S> } struct N { } struct W { u: () } enum E { A, B(i64), C(S), D(()) } enum L { End, More(Box<L>) } enum O { X(E), Y(bool), Z } " +
	"fn f(x: i64) -> i64 { x } fn two(x: i64, y: bool) -> bool { y } fn lend(s: &S) -> &S { s } fn give(s: &mut S) -> &mut S { s } fn own() -> Box<S> { panic() } fn some() -> S { panic() } fn pair() -> P { panic() } fn nil() { } " +
	"fn g(s: &S, m: &mut S, e: &E, n: &mut E, p: P, b: Box<S>) { let mut v = 1; let k = 2; let c = true; let mut w = pair(); let mut h = own(); let o = O::Z; "

// marked is a source without its marks [[ and ]], and where what was between them stands.
func marked(source string) (string, int, int) {
	from := max(strings.Index(source, "[["), 0)
	source = strings.Replace(source, "[[", "", 1)
	to := max(strings.Index(source, "]]"), 0)
	return strings.Replace(source, "]]", "", 1), from, to
}

func treeOf(t *testing.T, source string) api.Tree {
	t.Helper()
	x, d := parse.Parse(source)
	if d.Code != api.OK {
		t.Fatalf("%v at %q of %.500s", d, source[d.From:d.To], source)
	}
	return x
}

// mustOf is the typed tree of a source that is right.
func mustOf(t *testing.T, source string) api.Typed {
	t.Helper()
	x, d := Of(treeOf(t, source))
	if d.Code != api.OK {
		t.Fatalf("%v at %q of %.500s", d, source[d.From:d.To], source)
	}
	return x
}

// wantFault holds Of to an error at what is marked, with nothing beside it; OK: to none.
func wantFault(t *testing.T, source string, code api.Errno) {
	t.Helper()
	plain, from, to := marked(source)
	x, d := Of(treeOf(t, plain))
	if d != (api.Diag{Code: code, From: from, To: to}) {
		t.Errorf("%v at %q, not %v: %.200s", d, plain[d.From:d.To], code, strings.TrimPrefix(source, ahead))
	}
	if code != api.OK && (len(x.Tree.Nodes)+len(x.Types)+len(x.Vars)+len(x.Locals)+len(x.Items.Fns) > 0 || !items.Same(x.Items, api.Items{})) {
		t.Errorf("beside %v: %v", code, x.Types)
	}
}

func wantBodies(t *testing.T, code api.Errno, bodies ...string) {
	t.Helper()
	for _, b := range bodies {
		wantFault(t, ahead+b+" } fn main() { }", code)
	}
}

// 16.1: bodies in which all fits.
func TestRight(t *testing.T) {
	wantBodies(t, api.OK,
		"", "1; true; (); v; 1 + 2 * 3 - 4 / 5 % 6;", "f(1); two(1, true); print(1); read(); panic(); nil();",
		"S { a: 1, b: Box::new(2) }; S { b: Box::new(2), a: 1 }; N { }; P { l: own(), s: some(), q: c };",
		"E::A; E::B(1); E::C(some()); E::D(()); L::More(Box::new(L::End)); O::X(E::B(2));",
		"1 < 2; 1 <= 2; 1 > 2; 1 >= 2; 1 == 2; 1 != 2; c == true; c != false; c && c; c || c; !c; -v; - -v; !!c;",
		"s.a; s.b; m.a; p.s.a; p.l.a; b.a; h.b; lend(s).a; give(m).b; (&p).q; (&w.l).a;", "*s; *m; *b; *p.l; *s.b; *lend(s); *give(m); *&v; *(&h);",
		"&v; &k; &s.a; &*s; &*m; &mut *m; &mut v; &mut w.s.a; &mut *h; &mut h.a; &mut give(m).a; &mut *give(m); &lend(s).b;", "Box::new(1); Box::new(Box::new(())); Box::new(p); Box::new(*b);",
		"if c { } if c { 1; } if c { panic() } if c { return; } if c { () } else { nil() } if c { 1 } else { 2 }; if c { panic() } else { 2 }; if c { 1 } else { panic() }; if c { 1 } else if c { 2 } else { 3 }; if c { panic() } else { return; };",
		"match v { }; match v { 1 => 1, -2 => 2, x => x, _ => 3 }; match c { true => (), false => panic(), }; match v { 1 => panic(), _ => panic() }; match v { 1 => panic(), 2 => c, _ => return_it() }; } fn return_it() -> bool { true",
		"match e { E::A => 1, E::B(x) => *x, E::C(y) => y.a, E::D(_) => 2 }; match n { E::B(x) => { *x = 1; }, E::C(y) => { y.a = 2; }, z => { *z = E::A; } }", "match o { O::X(E::B(1)) => 1, O::X(E::C(x)) => x.a, O::Y(true) => 2, O::Y(t) => 3, O::Z => 4 };",
		"match &v { 1 => 1, x => *x }; match &mut v { 1 => (), x => { *x = 2; } } match &c { true => 1, _ => 2 }; match some() { x => x.a }; match s { x => x.a };",
		"let x = 1; let y: i64 = 1; let z: Box<Box<S>> = Box::new(own()); let r: &S = s; let q: &mut S = m; let t: &Box<i64> = &s.b; let u: () = (); let a: N = N { }; let l: L = L::End; let d: bool = x == y;",
		"v = 2; w = pair(); w.q = c; w.s.a = 1; w.l.a = 2; *w.l = some(); h = own(); h.a = 1; *h = some(); *h.b = 3; m.a = 1; *m = some(); *m.b = 2; give(m).a = 1; *give(m) = some(); *n = E::A;",
		"while c { } while c { v = v + 1; } while c { break; } while c { continue; } while c { return; } while c { panic() } while c { if c { break; } while c { continue; } continue; } while c { while { break; c } { } }",
		"return;", "return ();", "return panic();", "return nil();", "return { return; };", "{ return; }", "{ { break_it() } } } fn break_it() { while true { { { break; } } }",
		"let x = 1; { let x = true; x && c; } x + 1; let x = c; x || c;", "let x = { let y = 1; y }; x + 1;", "let v = v + 1; let v = v == 1; v && c;",
	)
}

// 16.1: an operand of the type ! wherever one is asked for or expected.
func TestNever(t *testing.T) {
	for _, never := range []string{"panic()", "{ return; }", "{ panic(); }", "{ 1; panic() }", "if c { panic() } else { return; }", "match v { _ => panic() }", "match v { }", "{ { { return; } } }"} {
		x := "([[" + never + "]])"
		wantBodies(t, api.ErrType,
			x+" + 1;", "1 + "+x+";", "v * "+x+";", x+" < 1;", "1 >= "+x+";", x+" == 1;", "c != "+x+";", "c && "+x+";", "c || "+x+";", x+" && c;", "-"+x+";", "!"+x+";",
			"f("+x+");", "two(1, "+x+");", "print("+x+");", "S { a: "+x+", b: Box::new(1) };", "E::B("+x+");", "E::D("+x+");",
			x+".a;", "*"+x+";", "&"+x+";", "&mut "+x+";", "Box::new("+x+");", "if "+x+" { }", "if "+x+" { 1 } else { 2 };", "while "+x+" { }", "match "+x+" { };", "match "+x+" { _ => 1 };",
			"let x = "+x+";", "let x: i64 = "+x+";", "let x: () = "+x+";", x+" = 1;", "v = "+x+";",
		)
		plain := "(" + never + ")"
		wantBodies(t, api.OK, plain+";", plain, "{ "+plain+" }", "if c { "+plain+" }", "if c { "+plain+" } else { 1 };", "if c { 1 } else { "+plain+" };", "match v { 1 => "+plain+", 2 => 1, _ => "+plain+" };", "while c { "+plain+" }", "return "+plain+";")
	}
}

// 16.1: another type than is expected, or fits, at each place.
func TestTypes(t *testing.T) {
	wantBodies(t, api.ErrType,
		"[[c]] + 1;", "1 + [[c]];", "[[()]] - 1;", "1 * [[s]];", "[[&v]] / 1;", "v % [[Box::new(1)]];", "[[c]] < c;", "1 <= [[c]];", "1 > [[()]];", "[[e]] >= v;",
		"[[()]] == ();", "[[s]] == s;", "[[&v]] != &v;", "1 == [[c]];", "c == [[1]];", "c != [[&c]];", "[[o]] == O::Z;", "[[Box::new(1)]] == 1;", "[[1]] && c;", "c && [[1]];", "[[v]] || c;", "c || [[()]];",
		"-[[c]];", "-[[()]];", "-[[&v]];", "![[1]];", "![[()]];", "![[&c]];",
		"f([[c]]);", "f([[&v]]);", "two([[c]], c);", "two(1, [[1]]);", "print([[c]]);", "print([[&v]]);", "lend([[m]]);", "give([[s]]);", "lend([[some()]]);",
		"S { a: [[c]], b: Box::new(1) };", "S { a: 1, b: [[1]] };", "S { b: [[own()]], a: 1 };", "P { s: [[s]], q: c, l: own() };", "E::B([[c]]);", "E::B([[()]]);", "E::C([[own()]]);", "E::D([[1]]);", "L::More([[L::End]]);",
		"if [[1]] { }", "if [[&c]] { 1 } else { 2 };", "if c [[{ 1 }]]", "if c [[{ c }]]", "if c { } else [[{ 1 }]]", "if c { 1 } else [[{ }]];", "if c { 1 } else [[{ c }]];", "if c { 1 } else [[if c { }]];", "if c { 1 } else if c { 2 } else [[{ c }]];", "if c { panic() } else if c { 2 } else [[{ c }]];", "if c { s } else [[{ m }]];", "if c { 1; } else [[{ 1 }]];",
		"match v { 1 => 1, _ => [[c]] };", "match v { 1 => panic(), 2 => 1, 3 => panic(), _ => [[()]] };", "match v { 1 => 1, 2 => [[c]], _ => () };", "match v { 1 => (), _ => [[1]] };", "match v { 1 => s, _ => [[m]] };",
		"let x: i64 = [[c]];", "let x: &S = [[m]];", "let x: &mut S = [[s]];", "let x: S = [[s]];", "let x: Box<S> = [[some()]];", "let x: () = [[1]];", "let x: E = [[L::End]];",
		"v = [[c]];", "w = [[1]];", "w.q = [[1]];", "*h = [[own()]];", "h = [[some()]];", "m.a = [[()]];", "*n = [[e]];",
		"while [[v]] { }", "while [[&c]] { }", "while c [[{ 1 }]]", "while c [[{ c }]]", "while c [[{ { 1 } }]]",
		"return [[1]];", "return [[c]];", "return [[s]];", "return [[{ 1 }]];",
	)
	for _, s := range []string{
		"fn x() -> i64 [[{ }]]", "fn x() [[{ 1 }]]", "fn x() -> i64 [[{ true }]]", "fn x() -> i64 [[{ 1; }]]", "fn x() -> i64 { [[return]]; }", "fn x() -> i64 { return [[true]]; }", "fn x() -> i64 { return [[()]]; }",
		"fn x(r: &i64) -> &mut i64 [[{ r }]]", "fn x(r: &mut i64) -> &i64 [[{ r }]]", "fn x(r: &i64) -> i64 { return [[r]]; }", "fn x() -> i64 [[{ while true { } }]]", "fn x() -> i64 [[{ return 1; 2; }]]", "fn x() -> i64 [[{ if true { return 1; } }]]",
	} {
		wantFault(t, s+" fn main() { }", api.ErrType)
	}
	for _, s := range []string{"fn x() -> i64 { 1 }", "fn x() -> i64 { return 1; }", "fn x() -> i64 { panic() }", "fn x() -> i64 { panic(); }", "fn x() -> i64 { if true { return 1; } else { panic() } }", "fn x(r: &i64) -> &i64 { r }", "fn x() -> () { }", "fn x() -> () { return; }", "fn x() -> i64 { 1; { { return 2; } } }", "fn x() -> i64 { match 1 { 1 => 2, _ => return_it() } } fn return_it() -> i64 { 1 }"} {
		wantFault(t, s+" fn main() { }", api.OK)
	}
}

// 16.1: names, and where they are seen.
func TestScopes(t *testing.T) {
	wantBodies(t, api.ErrVar,
		"[[y]];", "[[f]];", "[[S]];", "[[main]];", "[[print]];", "[[V]];", "1 + [[y]];", "[[y]] = 1;", "&[[y]];", "[[y]].a;", "*[[y]];", "f([[y]]);", "let y = [[y]];", "let y: i64 = [[y]]; y;", "[[x]];",
		"{ let y = 1; } [[y]];", "if c { let y = 1; } [[y]];", "if c { let y = 1; } else { [[y]]; }", "if { let y = c; y } { [[y]]; }", "while c { let y = 1; } [[y]];", "while { let y = c; y } { [[y]]; }", "let z = { let y = 1; y }; [[y]];", "f({ let y = 1; y }) + [[y]];",
		"match v { y => 1, _ => [[y]] };", "match v { y => y, _ => 2 }; [[y]];", "match [[y]] { y => y };", "match e { E::B(y) => 1, E::A => *[[y]], _ => 2 };", "match v { 1 => { let y = 1; y }, _ => [[y]] };", "[[y]]; let y = 1;", "S { a: { let y = 1; y }, b: Box::new([[y]]) };",
	)
	wantFault(t, "fn a(x: i64) { let y = 1; } fn b() { [[x]]; } fn main() { }", api.ErrVar)
	wantFault(t, "fn a(x: i64) { let y = 1; } fn b() { [[y]]; } fn main() { }", api.ErrVar)
	wantFault(t, "fn b() { [[x]]; } fn a(x: i64) { } fn main() { }", api.ErrVar)
}

// 16.1: calls.
func TestCalls(t *testing.T) {
	wantBodies(t, api.ErrCall,
		"[[f()]];", "[[f(1, 2)]];", "[[two(1)]];", "[[two(1, c, 2)]];", "[[nil(1)]];", "[[unknown()]];", "[[v()]];", "[[S(1)]];", "[[E(1)]];", "[[print()]];", "[[print(1, 2)]];", "[[read(1)]];", "[[panic(1)]];", "[[panic(1, 2)]];", "[[main(1)]];",
		"[[f()]] + y;", "[[f(y, y)]];", "[[unknown(y)]];", "[[print(c, c)]];", "[[read(y)]];", "[[panic(panic())]];", "f([[f()]]);",
	)
}

// 16.1: structs and variants that are made, and fields.
func TestFields(t *testing.T) {
	wantBodies(t, api.ErrField,
		"[[T { }]];", "[[E { }]];", "[[f { }]];", "[[v { }]];", "[[T { a: y }]];", "S { [[c: 1]] };", "S { [[c: y]] };", "S { a: 1, [[a: 2]] };", "S { a: 1, b: Box::new(1), [[a: y]] };", "N { [[a: 1]] };", "S { b: Box::new(1), [[b: Box::new(1)]], a: 1 };",
		"[[S { }]];", "[[S { a: 1 }]];", "[[S { b: Box::new(1) }]];", "[[P { s: some(), l: own() }]];", "[[W { }]];", "S { a: 1, [[s: some()]] };",
		"[[E::F]];", "[[E::F(1)]];", "[[E::F(y)]];", "[[F::A]];", "[[S::a]];", "[[S::a(1)]];", "[[E::A(1)]];", "[[E::A(y)]];", "[[E::A(())]];", "[[E::B]];", "[[E::D]];", "[[L::A]];", "[[f::f]];",
		"[[s.z]];", "[[v.a]];", "[[c.a]];", "[[p.a]];", "[[p.s.q]];", "[[e.A]];", "[[o.X]];", "[[b.q]];", "[[s.a.a]];", "[[lend(s).z]];", "[[(*s).z]];", "[[p.l.s]];", "[[s.b.a]];", "[[p.q.q]];", "[[(&v).a]];", "[[s.z]].a;",
	)
}

// 16.1: bases and places.
func TestPlaces(t *testing.T) {
	wantBodies(t, api.ErrPlace,
		"[[f(1)]].a;", "[[some()]].a;", "[[own()]].a;", "[[1]].a;", "[[Box::new(some())]].a;", "([[{ p }]]).q;", "([[if c { 1 } else { 2 }]]).a;", "[[E::A]].a;", "[[()]].a;", "([[-v]]).a;", "([[v + 1]]).a;", "([[!c]]).a;", "([[match v { _ => own() }]]).a;",
		"*[[1]];", "*[[f(1)]];", "*[[own()]];", "*[[Box::new(1)]];", "*[[()]];", "*[[true]];", "*([[{ b }]]);", "*([[v + 1]]);", "*[[-v]];", "*[[E::A]];",
		"&[[1]];", "&[[f(1)]];", "&mut [[own()]];", "&[[()]];", "&[[Box::new(1)]];", "&mut [[E::A]];", "&([[{ v }]]);", "&([[&v]]);", "&([[lend(s)]]);", "&mut ([[give(m)]]);", "&[[-v]];",
		"[[1]] = 2;", "[[f(1)]] = 2;", "[[1]] = c;", "[[1]] = y;", "[[()]] = ();", "[[own()]] = own();", "[[lend(s)]] = s;", "[[give(m)]] = m;", "[[v + 1]] = 2;", "[[&v]] = s;", "[[-v]] = 1;", "([[{ v }]]) = 1;", "[[true]] = c;",
	)
	wantBodies(t, api.ErrDeref, "[[*v]];", "[[*c]];", "[[*p]];", "[[*s.a]];", "[[**s]];", "[[**&v]];", "[[*o]];", "[[*(*s.b)]];", "[[**b.b]];", "[[*v]] = 1;", "&[[*v]];", "([[*p.q]]).a;")
}

// 16.1: references within others.
func TestInnerReferences(t *testing.T) {
	wantBodies(t, api.ErrInner,
		"[[&s]];", "[[&m]];", "[[&mut s]];", "[[&mut m]];", "let r = [[&e]];", "f([[&s]]);", "let r = &v; [[&r]];", "let mut r = &v; [[&mut r]];",
		"[[Box::new(s)]];", "[[Box::new(m)]];", "[[Box::new(&v)]];", "[[Box::new(lend(s))]];", "[[Box::new(&mut v)]];", "Box::new([[Box::new(s)]]);", "Box::new(Box::new([[Box::new(s)]]));",
		"let x: Box<[[&i64]]> = y;", "let x: & [[&i64]] = y;", "let x: &mut [[&S]] = 1;", "let x: Box<Box<[[&mut S]]>> = 1;", "let x: &Box<[[& &i64]]> = 1;", "let x: Box<[[&mut Box<&i64>]]> = 1;", "let x: & [[&mut Box<&i64>]] = 1;",
	)
	wantBodies(t, api.ErrUnknown, "let x: [[T]] = y;", "let x: &[[T]] = 1;", "let x: Box<[[T]]> = 1;", "let x: Box<&[[T]]> = 1;", "let x: & &mut Box<[[T]]> = 1;", "let mut x: [[f]] = 1;", "let x: [[main]] = 1;", "let x: [[v]] = 1;")
}

// 16.1: what may be changed.
func TestChanges(t *testing.T) {
	wantBodies(t, api.ErrMut,
		"[[k]] = 1;", "[[s]] = s;", "[[m]] = m;", "[[p]] = pair();", "[[p.q]] = c;", "[[p.s.a]] = 1;", "[[p.l.a]] = 1;", "[[*p.l]] = some();", "[[b.a]] = 1;", "[[*b]] = some();", "[[*b.b]] = 1;", "[[s.a]] = 1;", "[[s.b]] = Box::new(1);", "[[*s]] = some();", "[[*s.b]] = 1;", "[[*e]] = E::A;",
		"[[lend(s).a]] = 1;", "[[*lend(s)]] = some();", "[[*lend(s).b]] = 1;", "[[*&v]] = 1;", "[[(&w).q]] = c;", "[[*(&h)]] = own();", "[[**(&h)]] = some();", "[[(&w.l).a]] = 1;", "[[(*s).a]] = 1;",
		"&mut [[k]];", "&mut [[p]];", "&mut [[p.q]];", "&mut [[b.a]];", "&mut [[*b]];", "&mut [[*s]];", "&mut [[s.a]];", "&mut [[lend(s).a]];", "&mut [[*e]];", "&mut [[*b.b]];",
		"let x = 1; [[x]] = 2;", "let x: i64 = 1; &mut [[x]];", "let r = &mut v; [[r]] = r;", "let mut r = &w; [[r.q]] = c;", "let mut r = s; [[r.a]] = 1;", "let mut r = &h; [[**r]] = some();", "match v { x => { [[x]] = 1; } }", "match e { E::B(x) => { [[*x]] = 1; }, _ => () }", "match n { E::B(x) => { [[x]] = x; }, _ => () }", "match pair() { x => { [[x.q]] = c; } }", "let mut x = 1; { let x = 2; [[x]] = 3; }", "let mut x = 1; let x = 2; [[x]] = 3;",
	)
	wantBodies(t, api.OK,
		"let mut x = 1; x = 2;", "let mut r = s; r = s;", "let mut r = m; r = m; r.a = 1; *r = some();", "let r = &mut v; *r = 1;", "let r = &mut w; r.q = c; r.s.a = 1; r.l.a = 1; *r.l = some();", "let r = &mut h; **r = some(); r.a = 1; *r.b = 2;", "let x = 1; { let mut x = 2; x = 3; }", "let x = 1; let mut x = 2; x = 3;",
		"match n { E::B(x) => { *x = 1; }, E::C(x) => { x.a = 1; *x.b = 2; }, _ => () }", "(&mut w).q = c;", "*(&mut v) = 1;", "*(&mut *h) = some();", "let mut q = b; q.a = 1; *q.b = 2;", "let r = give(m); r.a = 1;", "(if c { m } else { give(m) }).a = 1;", "*(match v { _ => m }) = some();", "({ m }).a = 1;",
	)
	wantFault(t, "fn x(a: i64) { [[a]] = 1; } fn main() { }", api.ErrMut)
	wantFault(t, "fn x(mut a: i64) { a = 1; } fn main() { }", api.OK)
	wantFault(t, "fn x(a: i64, mut b: i64) { b = 1; &mut [[a]]; } fn main() { }", api.ErrMut)
	wantFault(t, "fn x(mut a: i64, b: i64) { &mut a; &mut [[b]]; } fn main() { }", api.ErrMut)
}

// 16.1: loops.
func TestLoops(t *testing.T) {
	wantBodies(t, api.ErrLoop,
		"[[break]];", "[[continue]];", "{ [[break]]; }", "if c { [[continue]]; }", "while c { } [[break]];", "while { [[break]]; c } { }", "while { [[continue]]; c } { break; }", "while c { while c { break; } break; } [[continue]];", "while c { } while { [[break]]; c } { }", "match v { _ => { [[break]]; } }", "let x = { [[break]]; 1 };",
	)
	wantBodies(t, api.OK, "while c { while { break; c } { } }", "while c { while { continue; c } { break; } }", "while c { match v { 1 => { break; }, _ => { continue; } } }", "while c { let x = if c { break; } else { 1 }; }", "while c { { { continue; } } }")
	wantFault(t, "fn a() { while true { } } fn main() { [[break]]; }", api.ErrLoop)
	wantFault(t, "fn a() { while true { break; } } fn main() { [[continue]]; }", api.ErrLoop)
}

// 16.1: patterns.
func TestPatterns(t *testing.T) {
	wantBodies(t, api.ErrPattern,
		"match v { [[true]] => 1 };", "match c { [[1]] => 1 };", "match c { [[-1]] => 1 };", "match () { [[1]] => 1 };", "match v { [[E::A]] => 1 };", "match o { [[1]] => 1 };", "match o { [[false]] => 1 };", "match o { [[E::A]] => 1 };", "match e { [[O::Z]] => 1 };", "match p { [[P::s]] => 1 };", "match some() { [[1]] => 1 };",
		"match e { [[E::F]] => 1 };", "match e { [[E::F(x)]] => 1 };", "match e { [[F::A]] => 1 };", "match e { [[E::A(x)]] => 1 };", "match e { [[E::B]] => 1 };", "match e { [[E::D]] => 1 };", "match e { [[E::A(_)]] => 1 };", "match o { O::X([[O::Z]]) => 1 };", "match o { O::X(E::B([[true]])) => 1 };", "match o { O::Y([[1]]) => 1 };", "match o { O::X(E::C([[1]])) => 1 };", "match o { O::X([[E::B]]) => 1 };", "match o { O::X([[E::A(1)]]) => 1 };",
		"match Box::new(v) { [[1]] => 1 };", "match Box::new(E::A) { [[E::A]] => 1 };", "match L::End { L::More([[L::End]]) => 1 };", "match &h { [[1]] => 1 };", "match s.b { [[1]] => 1 };", "match &s.b { [[1]] => 1 };", "match &v { [[true]] => 1 };", "match &mut v { [[false]] => 1 };", "match n { [[O::Z]] => 1 };", "match n { E::B([[true]]) => 1 };", "match e { E::C([[E::A]]) => 1 };",
		"match v { 1 => 1, [[true]] => y };", "match e { E::A => 1, [[E::A(y)]] => z };", "match e { [[E::A(E::F)]] => 1 };", "match e { [[O::X(E::F)]] => 1 };",
	)
	wantBodies(t, api.ErrType, "match [[panic()]] { 1 => y };")
	wantBodies(t, api.ErrVar, "match [[y]] { true => 1 };", "match v { 1 => [[y]], true => 1 };")
}

// 16.1: of two things that do not fit, which is told.
func TestOrder(t *testing.T) {
	wantBodies(t, api.ErrType,
		"[[c]] + y;", "[[s]] == y;", "[[1]] && y;", "[[panic()]] < y;", "f([[c]]); y;", "two([[c]], y);", "two([[c]], 1);", "if [[1]] { y; }", "if [[1]] { 2 }", "if [[1]] { } else { y; }", "while [[1]] { y; }", "while [[1]] { 2 }", "match [[panic()]] { x => y };", "S { a: [[c]], c: 1 };", "S { a: [[c]], a: 1 };", "S { a: [[c]] };",
		"v = [[c]]; k = 1;", "k = [[c]];", "s.a = [[c]];", "[[panic()]] = y;", "&mut [[panic()]];", "[[panic()]].z;", "let x: i64 = [[c]]; x = 1;", "return [[1]]; y;",
	)
	wantBodies(t, api.ErrVar,
		"[[y]] + c;", "1 + [[y]];", "c == [[y]];", "f([[y]]);", "two([[y]], 1);", "two(1, [[y]]);", "if [[y]] { 1 }", "if c { [[y]]; 1 }", "if c { 1 } else { [[y]]; }", "if c { [[y]]; } else { 1 }", "while c { [[y]]; 1 }", "let x: i64 = [[y]];", "1 + [[y]] + c;", "k = [[y]];", "s.a = [[y]];", "[[y]] = c;", "return [[y]];", "{ [[y]]; 1 }", "[[y]].z;", "S { a: [[y]], c: 1 };", "S { a: [[y]] };", "Box::new([[y]]);", "*[[y]];",
		"match v { 1 => 1, 2 => c, _ => [[y]] };", "match v { x => 1, _ => { [[x]]; c } };", // the arms' types are looked at behind all their walks
	)
	wantBodies(t, api.ErrPattern, "match v { 1 => 1, 2 => c, [[true]] => 1 };", "match v { [[true]] => y };")
	wantBodies(t, api.ErrUnknown, "let x: [[T]] = y;", "let x: [[T]] = panic();")
	wantBodies(t, api.ErrInner, "let x: Box<[[&S]]> = y;", "let r = [[&mut s]];")
	wantBodies(t, api.ErrCall, "[[f(c, y)]];", "[[print()]]; y;")
	wantBodies(t, api.ErrField, "[[T { a: y }]];", "S { [[z: y]] };", "[[E::A(y)]];", "[[p.z]] = y;", "S { a: 1, [[a: c]] };", "[[S { a: 1 }]]; y;")
	wantBodies(t, api.ErrPlace, "[[1]] = y;", "[[1]] = panic();", "&mut [[1]];", "*[[1]];", "[[1]].z;", "[[own()]].z;")
	wantBodies(t, api.ErrDeref, "[[*v]] = y;")
	wantFault(t, "fn b() { [[y]]; } fn a() { 1 + true; } fn main() { }", api.ErrVar)
	wantFault(t, "fn a() { 1 + [[true]]; } fn b() { y; } fn main() { }", api.ErrType)
	wantFault(t, "fn a() -> i64 { [[y]]; } fn main() { }", api.ErrVar)
	wantFault(t, "fn main() { y; } fn a(x: [[T]]) { 1 + true; }", api.ErrUnknown)
	wantFault(t, "[[]]fn f() { y; }", api.ErrMain)
	wantFault(t, "fn main() { y; } [[fn main() { }]]", api.ErrDup)
	wantFault(t, "fn main() { y; } [[struct S { s: S }]]", api.ErrEndless)
	wantFault(t, "fn main() { y; } struct S { s: [[&i64]] }", api.ErrInner)
}

// lets are so many variables that begin one behind the other, each by a text with # in it as its number.
func lets(n int, text string) string {
	var s strings.Builder
	for k := range n {
		s.WriteString(strings.ReplaceAll(text, "#", strconv.Itoa(k)))
	}
	return s.String()
}

// 16.1: MaxLocals variables, and one more.
func TestManyVariables(t *testing.T) {
	const most = api.MaxLocals
	for _, c := range []struct {
		source string
		code   api.Errno
	}{
		{"fn main() { " + lets(most, "let x# = #; ") + "}", api.OK},
		{"fn main() { " + lets(most, "let x = #; ") + "[[let y = 1]]; y2; }", api.ErrLong},
		{"fn main() { " + lets(most, "{ let x = #; } ") + "{ [[let mut y: i64 = 1]]; } }", api.ErrLong},
		{"fn main() { " + lets(most, "let x# = #; ") + "let y = [[true]] + 1; }", api.ErrType},
		{"fn main() { " + lets(most, "let x# = #; ") + "let y: [[T]] = 1; }", api.ErrUnknown},
		{"fn main() { " + lets(most, "let x# = #; ") + "let y: bool = [[1]]; }", api.ErrType},
		{"fn main() { " + lets(most, "match 1 { x => x, } ; ") + "}", api.OK},
		{"fn main() { match 1 { " + lets(most, "x# => x#, ") + "_ => 1 }; match 1 { [[y]] => z, }; }", api.ErrLong},
		{"enum E { B(i64) } fn main() { match 1 { " + lets(most, "x# => x#, ") + "_ => 1 }; match E::B(1) { E::B([[y]]) => z, }; }", api.ErrLong},
		{"fn f(a: i64, b: i64) { " + lets(most-2, "let x# = a; ") + "} fn main() { }", api.OK},
		{"fn f(a: i64, b: i64) { " + lets(most-2, "let x# = a; ") + "[[let y = b]]; } fn main() { }", api.ErrLong},
		{"fn f(a: i64, b: i64) { " + lets(most-3, "let x# = a; ") + "[[let y = match b { z => z, }]]; } fn main() { }", api.ErrLong},
		{"fn f() { " + lets(most, "let x# = 1; ") + "} fn g() { " + lets(most, "let x# = 1; ") + "} fn main() { let x = 1; }", api.OK},
	} {
		wantFault(t, c.source, c.code)
	}
}
