package eval

import (
	"strings"
	"testing"

	"patina/api"
)

// ahead are items that bodies of main may name.
const ahead = "struct S { a: i64, b: Box<i64> } struct D { x: i64, y: bool } struct P { d: D, s: S, l: Box<L> } struct N { } " +
	"enum E { A, B(i64), C(Box<i64>) } enum O { W(E), T(bool), Z } enum L { End, More(Box<L>) } enum T { I(i64), K(Box<i64>), F(E), Q(bool), M(Box<P>) } " +
	"fn id(x: i64) -> i64 { x } fn say(x: i64) -> i64 { print(x); x } fn yes(x: i64) -> bool { print(x); true } fn no(x: i64) -> bool { print(x); false } " +
	"fn new(x: i64) -> Box<i64> { Box::new(x) } fn eat(b: Box<i64>) { } fn lend(b: &Box<i64>) -> &Box<i64> { b } fn big() -> i64 { 9223372036854775807 } fn least() -> i64 { -9223372036854775807 - 1 } "

const (
	done     = api.ExitDone
	over     = api.ExitOverflow
	divide   = api.ExitDivide
	panicked = api.ExitPanic
	undef    = -api.EndUndef
	fuelless = -api.EndFuel
)

// row is what main does: what it prints, numbers with a blank between; its code, or how else it ended; how many steps it took (0: as many as the model tells).
type row struct {
	body  string
	out   string
	code  int
	steps int
}

func (r row) outcome() api.Outcome {
	o := api.Outcome{End: api.EndDone, Code: r.code, Steps: r.steps}
	if r.code < 0 {
		o.End, o.Code = -r.code, 0
	}
	if r.out != "" {
		o.Out = []byte(strings.ReplaceAll(r.out, " ", "\n") + "\n")
	}
	return o
}

// source is a body in main; or a whole source, if it has a main.
func source(body string) string {
	if strings.Contains(body, "fn main") {
		return ahead + body
	}
	return ahead + "fn main() { " + body + " }"
}

const input = "AB\x00\xff"

// wantRows holds runs, and the model, to rows, with just enough fuel, with more, and with one step too few.
func wantRows(t *testing.T, rows []row) {
	t.Helper()
	for _, r := range rows {
		u := typedOf(t, source(r.body))
		want := r.outcome()
		if _, o := newModel(u, []byte(input), 100000).run(len(u.Items.Fns)-1, nil); r.steps == 0 {
			want.Steps = o.Steps
		} else if !sameOutcome(o, want) {
			t.Errorf("%s: %v of the model, not %v", r.body, o, want)
		}
		for _, fuel := range []int{want.Steps, want.Steps + 1, 100000} {
			if got, e := Run(u, []byte(input), fuel); !sameOutcome(got, want) || e != api.OK {
				t.Errorf("%s: %v %v, not %v with fuel %d", r.body, got, e, want, fuel)
				break
			}
		}
		got, e := Run(u, []byte(input), want.Steps-1)
		if e != api.OK || got.End != api.EndFuel || got.Code != 0 || got.Steps != want.Steps-1 || !strings.HasPrefix(string(want.Out), string(got.Out)) {
			t.Errorf("%s: %v %v with one step too few", r.body, got, e)
		}
	}
}

// 18.1: values of expressions.
func TestValues(t *testing.T) {
	wantRows(t, []row{
		{"", "", done, 1}, {"()", "", done, 2}, {"1;", "", done, 3}, {"print(5)", "5", done, 3}, {"print(0);", "0", done, 4}, {"print(9223372036854775807);", "9223372036854775807", done, 4}, {"print(-9223372036854775807 - 1);", "-9223372036854775808", done, 7},
		{"let x = 3; print(x);", "3", done, 6}, {"true; false; ();", "", done, 7},
		// signs
		{"print(1 + 2 * 3);", "7", done, 8}, {"print(7 - 9);", "-2", done, 6}, {"print(-7 / 2); print(7 / -2); print(-7 % 2); print(7 % -2);", "-3 -3 -1 1", done, 1 + 4*6}, {"print(- -4);", "4", done, 6},
		{"if 1 < 2 { print(1); } if 2 < 2 { print(2); } if 3 < 2 { print(3); } ()", "1", done, 1 + 3*5 + 4 + 1}, {"if 1 <= 2 { print(1); } if 2 <= 2 { print(2); } if 3 <= 2 { print(3); } ()", "1 2", done, 1 + 3*5 + 8 + 1},
		{"if 1 > 2 { print(1); } if 2 > 2 { print(2); } if 3 > 2 { print(3); } ()", "3", done, 1 + 3*5 + 4 + 1}, {"if 1 >= 2 { print(1); } if 2 >= 2 { print(2); } if 3 >= 2 { print(3); } ()", "2 3", done, 1 + 3*5 + 8 + 1},
		{"if 1 == 2 { print(1); } if 2 == 2 { print(2); } if true == false { print(3); } if false == false { print(4); } ()", "2 4", done, 1 + 4*5 + 8 + 1}, {"if 1 != 2 { print(1); } if 2 != 2 { print(2); } if true != false { print(3); } if false != false { print(4); } ()", "1 3", done, 1 + 4*5 + 8 + 1},
		{"if !true { print(1); } if !false { print(2); } if !!true { print(3); } ()", "2 3", done, 1 + 4 + 4 + 5 + 8 + 1},
		// the right side of && and ||
		{"if yes(1) && yes(2) { print(3); }", "1 2 3", done, 0}, {"if no(1) && yes(2) { print(3); }", "1", done, 0}, {"if yes(1) && no(2) { print(3); }", "1 2", done, 0}, {"if yes(1) || yes(2) { print(3); }", "1 3", done, 0}, {"if no(1) || yes(2) { print(3); }", "1 2 3", done, 0}, {"if no(1) || no(2) { print(3); }", "1 2", done, 0}, {"if false && 1 / 0 == 0 { } if true || 1 / 0 == 0 { }", "", done, 0}, {"if true && 1 / 0 == 0 { }", "", divide, 0}, {"if false || 1 / 0 == 0 { }", "", divide, 0},
		{"true && false;", "", done, 5}, {"false && true;", "", done, 4}, {"true || false;", "", done, 4}, {"false || true;", "", done, 5},
		// ifs and blocks
		{"print(if true { 1 } else { 2 }); print(if false { 1 } else { 2 });", "1 2", done, 1 + 2*(2+1+1+2)}, {"print(if false { 1 } else if true { 2 } else { 3 });", "2", done, 1 + 2 + 2 + 2 + 2}, {"if false { } ()", "", done, 5}, {"if true { } ()", "", done, 6}, {"print({ print(1); { 2 } });", "1 2", done, 1 + 2 + 1 + 3 + 2}, {"{ 1; { } }", "", done, 1 + 1 + 2 + 1},
		// calls
		{"print(id(4));", "4", done, 1 + 2 + 2 + 2}, {"fn none() { } fn main() { none(); none() }", "", done, 1 + 1 + 2 + 2}, {"fn six(a: i64, b: i64, c: bool, d: (), e: i64, f: i64) -> i64 { print(a); print(b); print(e); print(f); if c { a - b } else { 0 } } fn main() { print(six(1, 2, true, (), 5, 6)); }", "1 2 5 6 -1", done, 0},
		// read, at the input's end and behind it
		{"print(read()); print(read()); print(read()); print(read()); print(read()); print(read());", "65 66 0 255 -1 -1", done, 1 + 6*3},
		// structs and enums
		{"let s = S { a: 3, b: Box::new(4) }; print(s.a); print(*s.b);", "3 4", done, 1 + 1 + 4 + 4 + 5 + 1}, {"let p = P { d: D { x: 1, y: true }, l: Box::new(L::End), s: S { b: Box::new(2), a: 3 } }; print(p.d.x); print(p.s.a); print(*p.s.b); if p.d.y { print(4); }", "1 3 2 4", done, 0}, {"N { }; ", "", done, 3}, {"let n = N { }; let m = n; ", "", done, 5},
		{"E::A; E::B(1); E::C(Box::new(2)); O::W(E::B(3));", "", done, 1 + 2 + 3 + 4 + 1 + 4},
		// references and Boxes
		{"let a = 5; let r = &a; print(*r);", "5", done, 1 + 2 + 3 + 4}, {"let mut a = 5; let r = &mut a; *r = 6; print(a);", "6", done, 1 + 2 + 3 + 4 + 3}, {"let b = Box::new(7); print(*b);", "7", done, 1 + 3 + 4 + 1}, {"let b = Box::new(Box::new(8)); print(**b);", "8", done, 1 + 4 + 5 + 2}, {"let b = Box::new(1); print(**lend(&b));", "1", done, 0}, {"let u = Box::new(()); *u; let r = &*u; *r", "", done, 0},
	})
}

// 18.1: places, from variables and from values, through references and Boxes.
func TestPlaces(t *testing.T) {
	p := "let mut p = P { d: D { x: 1, y: true }, s: S { a: 2, b: Box::new(3) }, l: Box::new(L::End) }; "
	wantRows(t, []row{
		{"let s = S { a: 1, b: Box::new(2) }; print((&s).a);", "1", done, 1 + 5 + 5 + 1}, {"let s = S { a: 1, b: Box::new(2) }; print(*(&s).b); print(*&s.a);", "2 1", done, 1 + 5 + 6 + 6 + 1}, {"let b = Box::new(1); print(*{ print(2); &*b });", "2 1", done, 0}, {"let b = Box::new(1); let r = &b; print(**r); print(**&b); print(**lend(r));", "1 1 1", done, 0},
		{"let b = Box::new(S { a: 1, b: Box::new(2) }); let r = &b; print(b.a); print(r.a); print(*b.b); print(*r.b); print((*r).a); print((**r).a); print((&b).a); print((&*b).a);", "1 1 2 2 1 1 1 1", done, 0}, {"let b = Box::new(Box::new(D { x: 4, y: true })); let r = &b; print(b.x); print(r.x); if r.y { print((&*b).x); }", "4 4 4", done, 0},
		{"fn whole(p: &P) -> &P { p } fn give(p: &mut P) -> &mut P { p } fn main() { " + p + "print(whole(&p).s.a); print(*whole(&p).s.b); give(&mut p).d.x = 5; *give(&mut p).s.b = 6; let r = &mut give(&mut p).s; r.a = 7; *give(&mut p).l = L::More(Box::new(L::End)); give(&mut p).s.b = Box::new(*p.s.b + 1); print(p.d.x); print(p.s.a); print(*p.s.b); }", "2 3 5 7 7", done, 0},
		{p + "let r = &mut p; r.d.x = 10; let q = &mut r.s; q.a = 20; *q.b = 30; print(r.d.x + p.s.a + *p.s.b);", "60", done, 0}, {p + "let r = &p.s.a; let q = &p.d; print(*r + q.x);", "3", done, 0}, {p + "let r = &mut *p.s.b; *r = 8; print(*p.s.b);", "8", done, 0},
		// each pointer on the way is read, and what it points to must live
		{"let b = Box::new(S { a: 1, b: Box::new(2) }); let r = &b; let c = b; print(3); print(r.a);", "3", undef, 0}, {"let b = Box::new(S { a: 1, b: Box::new(2) }); let r = &b; let c = b; print(3); &r.a;", "3", undef, 0}, {"let b = Box::new(S { a: 1, b: Box::new(2) }); let c = b.b; print(b.a); let r = &b.b; print(4); &**r;", "1 4", undef, 0}, {"let b = Box::new(1); let c = b; let r = &b; print(1); let q = &*b;", "1", undef, 0}, {"let s = S { a: 1, b: Box::new(2) }; let q = s; let r = &s.a; let p = &s; let o = &p.b; print(1); print(*r);", "1", undef, 0},
		{"fn f(d: D) -> &D { &d } fn main() { print(1); f(D { x: 1, y: true }).x; }", "1", undef, 0}, {"fn f(d: D) -> &D { &d } fn main() { print(1); let r = &f(D { x: 1, y: true }).x; }", "1", undef, 0},
		// enums without payloads, and fields without words
		{"enum U { X, Y, Z } struct V { u: U, a: (), n: N, w: U, i: i64 } fn main() { let v = V { i: 1, w: U::Z, n: N { }, u: U::Y, a: () }; match v.u { U::X => print(1), U::Y => print(2), U::Z => print(3) }; match v.w { U::X => print(1), U::Y => print(2), U::Z => print(3) }; v.a; v.n; print(v.i); let u = v.u; match u { U::Y => print(4), _ => print(5) } }", "2 3 1 4", done, 0},
	})
}
