package driver

import (
	"bytes"
	"strconv"
	"strings"
	"testing"

	"patina/api"
)

// 27.4 to 27.6, P2 to P5: sources of every kind, what they print for an input, and the code with which they end.
func TestKinds(t *testing.T) {
	count := ends{}
	for _, c := range []struct {
		body string
		in   string
		code int
		out  string
	}{
		{"", "", 0, ""}, {"print(6 * 7);", "", 0, "42"}, {"print(-9223372036854775807 - 1); print(9223372036854775807); print(0); print(-0);", "", 0, "-9223372036854775808 9223372036854775807 0 0"},
		{"print(7 / 2); print(-7 / 2); print(7 / -2); print(7 % 3); print(-7 % 3); print(7 % -3); print(2 + 3 * 4 - 5); print((2 + 3) * (4 - 5));", "", 0, "3 -3 -3 1 -1 1 9 -5"},
		{"let a = read(); let b = read(); print(a / b); print(a % b); print(a * b); print(a - b); print(-a);", "\x64\x07", 0, "14 2 700 93 -100"},
		{"print(read()); print(read()); print(read()); print(read());", "\x00\xffA", 0, "0 255 65 -1"}, {"print(read());", "", 0, "-1"},
		{"let a = read(); let b = read(); if a < b { print(1); } if a <= b { print(2); } if a > b { print(3); } if a >= b { print(4); } if a == b { print(5); } if a != b { print(6); }", "\x01\x02", 0, "1 2 6"},
		{"let a = read(); let b = read(); if a < b { print(1); } if a <= b { print(2); } if a > b { print(3); } if a >= b { print(4); } if a == b { print(5); } if a != b { print(6); }", "\x02\x02", 0, "2 4 5"},
		{"let t = read() == 1; let f = !t; if t == f { print(1); } if t != f { print(2); } if t && f { print(3); } if t || f { print(4); } if f && 1 / 0 == 1 { print(5); } if t || 1 / 0 == 1 { print(6); }", "\x01", 0, "2 4 6"},
		{"let mut i = 0; while i < 5 { i = i + 1; if i == 2 { continue; } if i == 4 { break; } print(i); } print(i);", "", 0, "1 3 4"}, {"let mut i = 0; while i < 3 { let mut j = 0; while true { if j == i { break; } j = j + 1; print(j); } i = i + 1; }", "", 0, "1 1 2"},
		{"print(match read() { 0 => 10, -1 => 20, 7 => 30, x => x });", "\x07", 0, "30"}, {"print(match read() { 0 => 10, -1 => 20, 7 => 30, x => x });", "\x09", 0, "9"}, {"print(match read() { 0 => 10, -1 => 20, _ => 40 });", "", 0, "20"}, {"print(match read() == 0 { true => 1, false => 2 });", "\x00", 0, "1"},
		{"let e = if read() == 0 { E::B(5) } else { E::C(S { a: 6, b: Box::new(7) }) }; match e { E::A => print(1), E::B(5) => print(2), E::B(n) => print(n), E::T(true) => print(3), E::T(false) => print(4), E::C(s) => { print(s.a); print(*s.b); } }", "\x00", 0, "2"},
		{"let e = if read() == 0 { E::B(5) } else { E::C(S { a: 6, b: Box::new(7) }) }; match e { E::A => print(1), E::B(5) => print(2), E::B(n) => print(n), E::T(true) => print(3), E::T(false) => print(4), E::C(s) => { print(s.a); print(*s.b); } }", "\x01", 0, "6 7"},
		{"let mut s = S { b: Box::new(read()), a: 2 }; s.a = s.a + *s.b; *s.b = s.a * 2; print(s.a); print(*s.b); s.b = Box::new(9); print(*s.b);", "\x05", 0, "7 14 9"}, {"let p = P { d: pair(1, 2), e: E::T(true), t: false, u: () }; let d = p.d; print(*d.x + *d.y); match p.e { E::T(t) => print(if t { 3 } else { 4 }), _ => print(5) }", "", 0, "3 3"},
		{"print(six(1, true, pair(2, 3), E::C(S { a: 4, b: Box::new(5) }), (), &6)); print(six(1, false, pair(2, 3), E::A, (), &6));", "", -1, ""},
		{"let z = 6; print(six(1, true, pair(2, 3), E::C(S { a: 4, b: Box::new(5) }), (), &z)); print(six(1, false, pair(2, 3), E::A, (), &z)); print(six(1, true, pair(2, 3), E::T(false), { }, &z));", "", 0, "22 1 15"},
		{"let mut n = 1; add(&mut n, 2); let r = &mut n; add(&mut *r, 3); *r = *r * 10; print(n);", "", 0, "60"}, {"let a = 1; let b = 2; let r = pick(read() == 0, &a, &b); print(*r);", "\x00", 0, "1"}, {"let a = 1; let b = 2; let r = pick(read() == 0, &a, &b); print(*r);", "\x01", 0, "2"},
		{"let mut b = Box::new(Box::new(1)); **b = 2; let c = *b; *b = Box::new(*c + 3); print(*c); print(**b);", "", 0, "2 5"}, {"let b = Box::new(S { a: 1, b: Box::new(2) }); let s = *b; print(s.a + *s.b);", "", 0, "3"}, {"let mut e = E::C(S { a: 1, b: Box::new(2) }); match &mut e { E::C(s) => { s.b = Box::new(9); *s.b = *s.b + 1; s.a = 4; }, _ => { } } match &e { E::C(s) => print(*s.b + s.a), _ => { } }", "", 0, "14"},
		{"let l = list(10); print(sum(&l)); let mut m = list(3); { let p = last(&mut m); *p = l; } print(sum(&m));", "", 0, "45 48"}, {"let mut l = list(4); let mut go = true; while go { match l { L::Nil => { l = L::Nil; go = false; }, L::Cons(n) => { print(n.v); l = n.next; } } }", "", 0, "3 2 1 0"},
		{"print(fib(15)); if even(100) { print(1); } if odd(100) { print(2); }", "", 0, "610 1"}, {"let b = Box::new(1); if read() == 0 { let d = b; print(*d); } print(2);", "\x00", 0, "1 2"}, {"let b = Box::new(1); if read() == 0 { let d = b; print(*d); } print(2);", "\x01", 0, "2"}, {"let d = pair(1, 2); if read() == 0 { let x = d.x; print(*x); } else { let y = d.y; print(*y); }", "\x01", 0, "2"},
		{"let u = (); let w = { print(1); }; let v = match u { _ => { } }; print(2);", "", 0, "1 2"}, {"let x = { let y = 3; { let x = y * 2; x + 1 } }; let x = x + 1; print(x);", "", 0, "8"}, {"print(1); return; print(2);", "", 0, "1"}, {"let x = if read() == 0 { return; } else { 5 }; print(x);", "", 0, "5"},
		{"print(1); print(1 / read());", "\x00", 102, "1"}, {"print(1); print(1 % read());", "\x00", 102, "1"}, {"print(1); print(1 / read());", "\x01", 0, "1 1"}, {"print(1 / 0);", "", 102, ""}, {"let mut i = 9223372036854775807; i = i + 1;", "", 101, ""}, {"let x = -9223372036854775807 - 2; print(x);", "", 101, ""}, {"print(3); print((9223372036854775807 - read()) * 2);", "\x00", 101, "3"}, {"let m = -9223372036854775807 - read(); print(m); print(-m);", "\x01", 101, "-9223372036854775808"}, {"let m = -9223372036854775807 - read(); print(m / (0 - read()));", "\x01\x01", 101, ""}, {"let m = -9223372036854775807 - read(); print(m % (0 - read()));", "\x01\x01", 101, ""},
		{"panic();", "", 103, ""}, {"let b = Box::new(1); print(*b); if read() < 0 { panic() } else { print(2); }", "", 103, "1"}, {"print(if read() == 0 { 1 } else { panic() });", "\x00", 0, "1"}, {"last(&mut list(0)); print(1);", "", -1, ""}, {"let mut l = list(0); last(&mut l); print(1);", "", 0, "1"},
	} {
		if c.code < 0 { // a place is missing
			if b, d := Compile(inMain(c.body)); d.Code != api.ErrPlace || len(b) > 0 {
				t.Error(d, c.body)
			}
			continue
		}
		taken(t, inMain(c.body)).wantEnd([]byte(c.in), c.code, c.out, count)
	}
	for _, code := range []int{api.ExitDone, api.ExitOverflow, api.ExitDivide, api.ExitPanic} {
		if count.done(code, code) < 2 {
			t.Error("seldom:", code, count)
		}
	}
}

// 27.4: the same image with inputs of all lengths and kinds; those that are read no more do nothing.
func TestInputs(t *testing.T) {
	count := ends{}
	c := taken(t, inMain("let mut n = 0; let mut b = read(); while b >= 0 { if b == 33 { panic(); } n = n * 100 + b; if n > 1000000000000000 { print(n / (b - 48)); n = 0; } b = read(); } print(n);"))
	for _, in := range []string{"", "\x00", "!", "ab!cd", strings.Repeat("\x09", 50), strings.Repeat("\x63", 3000), "12345678901234567890", "ZZZZZZZ0", "aaaaaaa0", "aaaaaaaaaaaaaa0", strings.Repeat("\xff\xfe", 20), "\n\n\n"} {
		c.wantKept([]byte(in), 1000000, count)
	}
	c.wantKept(bytes.Repeat([]byte{7}, api.MaxSource), 4000000, count)
	if count.done(0, 0) < 4 || count.done(api.ExitPanic, api.ExitPanic) != 2 || count.done(api.ExitDivide, api.ExitDivide) < 2 {
		t.Error(count)
	}
}

// 27.4, P2: the heap's end, with a beginning of what the source prints. What was given back is there again, however long it goes on.
func TestHeap(t *testing.T) {
	count := ends{}
	for _, c := range []struct {
		body string
		code int // the image's
		out  string
	}{
		{"print(1); let l = list(500); print(2); print(sum(&l));", 0, "1 2 124750"}, {"print(1); let l = list(20000); print(2);", api.ExitHeap, "1"}, {"print(1); let l = list(20000); print(2 / 0);", api.ExitHeap, "1"}, {"let mut i = 0; let mut l = L::Nil; while i < 20000 { if i == 100 { print(i); } l = L::Cons(Box::new(N { v: i, next: l })); i = i + 1; } if read() == 0 { print(sum(&l)); } panic();", api.ExitHeap, "100"},
		{"let mut i = 0; while i < 20000 { let b = Box::new(i); i = i + 1; } print(i);", 0, "20000"}, {"let mut i = 0; while i < 300 { let l = list(40); i = i + 1; if i % 7 == 0 { continue; } match l { L::Cons(n) => { let m = n.next; }, L::Nil => { } } } print(i);", 0, "300"}, {"let mut b = Box::new(0); while *b < 20000 { b = Box::new(*b + 1); } print(*b);", 0, "20000"}, {"let mut i = 0; let mut l = list(200); while i < 3000 { l = match l { L::Nil => L::Nil, L::Cons(n) => L::Cons(Box::new(N { v: i, next: n.next })) }; i = i + 1; } print(sum(&l));", 0, "22700"},
	} {
		k := taken(t, inMain(c.body))
		if source, image := k.wantKept(nil, 2000000, count); source.End != api.EndDone || image.Code != c.code || string(image.Out) != lines(c.out) {
			t.Errorf("%d %d %d %q, not %d %q\n%s", source.End, source.Code, image.Code, image.Out, c.code, c.out, c.body)
		}
	}
	if count.done(0, api.ExitHeap) != 1 || count.done(api.ExitDivide, api.ExitHeap) != 1 || count.done(api.ExitPanic, api.ExitHeap) != 1 {
		t.Error(count)
	}
}

// 27.4, P2: the stack's end. A source goes no deeper than its calls may be; its image neither, whatever frames its functions have, and prints no more.
func TestStack(t *testing.T) {
	const wide = "struct F { a: i64, b: i64, c: i64, d: i64, e: i64, f: i64, g: i64, h: i64 } struct G { a: F, b: F, c: F, d: F, e: F, f: F, g: F } fn w(n: i64, g: G) -> G { print(n); let mut h = w(n + 1, g); let r = &mut h; r.a.a = n; h } fn eight() -> F { F { a: 1, b: 2, c: 3, d: 4, e: 5, f: 6, g: 7, h: 8 } } "
	count := ends{}
	for _, source := range []string{
		"fn main() { print(1); main(); }", "fn f(n: i64) { print(n); f(n + 1); } fn main() { f(0); }", "fn f(n: i64) { print(n); f(n + 1); } fn main() { print(5); { let x = 3; f(x); } }", "fn f(n: i64) -> i64 { print(n); let m = f(n + 1); print(m); m + n } fn main() { print(f(0)); }",
		"fn f(n: i64) { print(n); g(n + 1, n); } fn g(n: i64, m: i64) { if n < m { print(0); } else { h(n); } } fn h(n: i64) { f(n); } fn main() { f(0); }", "fn f(n: i64) -> bool { n < 0 || g(n + 1) } fn g(n: i64) -> bool { print(n); let b = Box::new(n); f(*b + 1) } fn main() { if f(0) { print(1); } }",
		"fn f(n: &i64) { print(*n); let m = *n + 1; f(&m); } fn main() { let z = 0; f(&z); }", wide + "fn main() { let g = w(0, G { a: eight(), b: eight(), c: eight(), d: eight(), e: eight(), f: eight(), g: eight() }); print(g.a.a); }", deepFunctions(40),
		"fn f(n: i64) -> i64 { if n == 0 { 0 } else { 1 + f(n - 1) } } fn main() { print(f(5)); print(f(999)); print(f(998)); }", inMain("print(7); let l = list(1500); print(sum(&l));"), inMain("print(7); print(if even(3000) { 1 } else { 0 });"),
	} {
		k := taken(t, source)
		o, d := Source(source, nil, 10000000)
		image := k.ranImage(nil, 10000000)
		if d.Code != api.OK || o.End != api.EndFuel || image.Code != api.ExitStack || len(image.Out) == 0 || !bytes.HasPrefix(o.Out, image.Out) {
			t.Errorf("%v %d %q, %d %d %q\n%s", d, o.End, o.Out, image.End, image.Code, image.Out, source)
		}
	}
	for _, c := range []struct{ body, out string }{
		{"print(if even(800) { 1 } else { 0 }); print(if odd(800) { 1 } else { 0 });", "1 0"}, {"let l = list(800); print(sum(&l)); print(sum(&l));", "319600 319600"}, {"let l = list(3000); let m = list(100); print(1);", "1"}, {"let mut t = Box::new(T { l: V::Nil, r: V::Nil }); let mut i = 0; while i < 1500 { t = Box::new(T { l: V::Cons(t), r: V::Nil }); i = i + 1; } print(i);", "1500"},
	} {
		taken(t, "struct T { l: V, r: V } enum V { Nil, Cons(Box<T>) } "+inMain(c.body)).wantEnd(nil, 0, c.out, count)
	}
}

// deepFunctions is a source of so many functions, of which each calls the next one, and the last one itself.
func deepFunctions(n int) string {
	var s strings.Builder
	for k := range n {
		me, next := "f"+strconv.Itoa(k), "f"+strconv.Itoa(min(k+1, n-1))
		s.WriteString("fn " + me + "(n: i64) { print(n); " + next + "(n + 1); } ")
	}
	return s.String() + "fn main() { f0(0); }"
}

// 27.4: where the source's fuel ends, the image prints a beginning of what more fuel would print; rings that never end do not end there, either.
func TestEndless(t *testing.T) {
	count := ends{}
	for _, body := range []string{
		"while true { }", "print(1); while true { } print(2);", "print(1); while read() != 0 { } print(2);", "let mut i = 0; while true { print(i); i = i + 1; }", "let mut i = 0; while true { if i == 9223372036854775807 { break; } i = i + 1; } print(i);", "let mut b = Box::new(1); while true { let c = b; b = Box::new(*c + 1); print(*b); }", "while true { while true { break; } continue; }", "let mut i = 0; while i >= 0 { let l = list(i); print(sum(&l)); i = (i + 1) % 50; }", "let mut n = 3; let mut r = &mut n; while true { r = &mut *r; *r = *r * 7 % 1000; print(*r); }",
	} {
		k := taken(t, inMain(body))
		for fuel := 1; fuel < 100000; fuel = fuel*3 + 1 {
			if o, _ := k.wantKept(nil, fuel, count); o.End != api.EndFuel || o.Steps != fuel {
				t.Errorf("%v\n%s", o, body)
			}
		}
	}
	k := taken(t, inMain("print(fib(13)); print(2); let l = list(30); print(sum(&l)); print(3 / read());"))
	for fuel := range 400 {
		k.wantKept([]byte{1}, fuel*fuel/3, count)
	}
	if count[[4]int{api.EndFuel, 0, api.EndFuel, 0}] < 100 || count.done(0, 0) < 10 {
		t.Error(count)
	}
}
