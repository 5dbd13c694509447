package driver

import (
	"strconv"
	"strings"
	"testing"

	"patina/api"
)

// each are so many texts, with the number of each in the place of $.
func each(n int, text string) string {
	var s strings.Builder
	for k := range n {
		s.WriteString(strings.ReplaceAll(text, "$", strconv.Itoa(k)))
	}
	return s.String()
}

// limit is how much of something a source may have: its main prints something then; with one more it is told where the last text of a kind stands (nowhere, if that is empty).
type limit struct {
	what   string
	most   int
	source func(n int) string
	code   api.Errno
	at     string
	in     string
	out    string
}

func limits() []limit {
	return append(wideLimits(), longLimits()...)
}

func wideLimits() []limit {
	return []limit{
		{"bytes", api.MaxSource, func(n int) string { s := "fn main() { print(1); } //"; return s + strings.Repeat("z", n-len(s)) }, api.ErrLong, "", "", "1"},
		{"functions", api.MaxItems, func(n int) string {
			return each(n-1, "fn f$(b: Box<i64>) -> Box<i64> { if *b < 0 { panic() } Box::new(*b + 1) } ") + "fn main() { let b = Box::new(0); " + each(min(n, api.MaxItems)-1, "let b = f$(b); ") + "print(*b); }"
		}, api.ErrLong, "fn main", "", "63"},
		{"functions with drops of their own", api.MaxItems, func(n int) string {
			return "enum L { Nil, Cons(Box<N>) } struct N { v: i64, next: L } enum O { No, Some(Box<O>), L(L) } " + each(n-1, "fn f$(n: i64) { let mut l = L::Nil; let o = Box::new(O::Some(Box::new(O::No))); let mut i = 0; while i < n { l = L::Cons(Box::new(N { v: i, next: l })); i = i + 1; } let p = O::L(l); } ") + "fn main() { " + each(min(n, api.MaxItems)-1, "f$($); ") + "print(4); }"
		}, api.ErrLong, "fn main", "", "4"},
		{"structs", api.MaxItems, func(n int) string {
			return each(n, "struct S$ { a: i64 } ") + "fn main() { " + each(min(n, api.MaxItems), "let s$ = S$ { a: $ }; print(s$.a); ") + "}"
		}, api.ErrLong, "struct S64 { a: i64 }", "", numbers(64)},
		{"enums", api.MaxItems, func(n int) string {
			return each(n, "enum E$ { A(i64), B } ") + "fn main() { " + each(min(n, api.MaxItems), "match E$::A($) { E$::A(n) => print(n), E$::B => print(-1) } ") + "}"
		}, api.ErrLong, "enum E64 { A(i64), B }", "", numbers(64)},
		{"fields", api.MaxFields, func(n int) string {
			return "struct S { " + each(n, "f$: i64, ") + "} fn main() { let mut s = S { " + each(n, "f$: read(), ") + "}; s.f15 = s.f15 + 1; " + each(n, "print(s.f$); ") + "}"
		}, api.ErrLong, "struct", "\x00\x01\x02\x03\x04\x05\x06\x07\x08\x09\x0a\x0b\x0c\x0d\x0e\x0e", numbers(16)},
		{"variants", api.MaxFields, func(n int) string {
			return "enum E { " + each(n, "V$(i64), ") + "} fn f(e: E) { match e { " + each(n, "E::V$(n) => { print(n + $); }, ") + "} } fn main() { " + each(n, "f(E::V$(0)); ") + "}"
		}, api.ErrLong, "enum", "", numbers(16)},
		{"parameters", api.MaxParams, func(n int) string {
			return "fn f(" + each(n, "a$: i64, ") + ") { " + each(n, "print(a$); ") + "} fn main() { f(" + each(n, "$, ") + "); }"
		}, api.ErrLong, "fn f", "", numbers(6)},
		{"wide parameters", api.MaxParams, func(n int) string {
			return "struct S { a: i64, b: Box<i64>, c: i64 } fn f(" + each(n, "a$: S, ") + ") -> S { " + each(n, "print(*a$.b); ") + "a5 } fn main() { let s = f(" + each(n, "S { a: 1, b: Box::new($), c: 3 }, ") + "); print(s.a + s.c + *s.b); }"
		}, api.ErrLong, "fn f", "", numbers(6) + " 9"},
		{"variables", api.MaxLocals, func(n int) string {
			return "fn main() { let mut s = 0; " + each(n-1, "let a$ = read(); s = s + a$; ") + "print(s); }"
		}, api.ErrLong, "let a255 = read()", "", "-255"},
		{"Boxes", api.MaxLocals, func(n int) string {
			return "fn main() { let mut s = 0; " + each(n-1, "let a$ = Box::new($); ") + each(min(n, api.MaxLocals)-1, "s = s + *a$; ") + "print(s); }"
		}, api.ErrLong, "let a255 = Box::new(255)", "", "32385"},
		{"a name's bytes", api.MaxName, func(n int) string {
			name := strings.Repeat("n", n)
			return "struct T { " + name + ": i64 } fn " + name + "(t: T) -> i64 { t." + name + " } fn main() { print(" + name + "(T { " + name + ": 5 })); }"
		}, api.ErrLong, "", "", "5"},
		{"words", api.MaxWords / 4, func(n int) string {
			return "struct A { " + each(15, "a$: i64, ") + "b: Box<i64> } struct B { a: A, b: A, c: A, d: C } struct C { " + each(min(n, 16)-1, "a$: i64, ") + pickText(n > 16, "a15: D", "a15: i64") + " } struct D { a: i64, b: i64 } " +
				"fn f(x: i64) -> A { A { " + each(15, "a$: x + $, ") + "b: Box::new(x) } } fn g(b: B) -> B { b } fn main() { let mut b = B { a: f(100), b: f(200), c: f(300), d: C { " + each(16, "a$: $, ") + "} }; b = g(b); b = g(b); print(b.a.a14); print(*b.b.b); print(b.c.a0); print(b.d.a15); }"
		}, api.ErrLong, "", "", "114 200 300 15"},
	}
}

func longLimits() []limit {
	rep := strings.Repeat
	return []limit{
		{"nodes", 9982, func(n int) string {
			s := "fn main() { f0(); " + rep("1; ", min(n, 9982)-9070) + "} " + each(10, "fn f$() { "+rep("1; ", 907)+"} ")
			return strings.Replace(s, "f0(); 1;", pickText(n > 9982, "f0(); -1;", "f0(); 1;"), 1)
		}, api.ErrLong, whole, "", ""},
		{"blocks", api.MaxBlocks - 2, func(n int) string { return "fn main() { " + rep("u(); ", n) + "print(1); } fn u() { }" }, api.ErrLong, "fn main", "", "1"},
		{"blocks that print", api.MaxBlocks - 2, func(n int) string { return "fn main() { " + rep("print(1); ", n) + "print(1); } fn u() { }" }, api.ErrLong, "fn main", "", strings.TrimSpace(rep("1 ", api.MaxBlocks-1))},
		{"tests", 339, func(n int) string {
			return "fn main() { let mut x = 0; let t = read() == 0; u(); u(); " + rep("if t { x = x + 1; } ", n) + "print(x); } fn u() { }"
		}, api.ErrLong, "fn main", "\x00", "339"},
		{"statements and locals", 4095, func(n int) string { return "fn main() { " + rep("1; ", n) + "} fn u() { }" }, api.ErrLong, "fn main", "", ""},
		{"statements", 2046, func(n int) string { return "fn main() { let mut x = 1; " + rep("x = 2; ", n) + "} fn u() { }" }, api.ErrLong, "fn main", "", ""},
		{"sums in one block", 1021, func(n int) string {
			return "fn main() { let mut x = read(); " + rep("x = x + 1; ", n) + "print(x); } fn u() { }"
		}, api.OK, "", "\x07", "1028"},
		{"a path", 64, func(n int) string {
			return "fn main() { let b = " + rep("Box::new(", n) + "7" + rep(")", n) + "; print(" + rep("*", n) + "b); } fn u() { }"
		}, api.ErrLong, "fn main", "", "7"},
		{"round brackets", api.MaxDeep - 3, func(n int) string { return "fn main() { print(" + rep("(", n) + "1" + rep(")", n) + "); }" }, api.ErrDeep, "1", "", "1"},
		{"signs ahead", api.MaxDeep - 3, func(n int) string { return "fn main() { print(" + rep("-", n) + "1); }" }, api.ErrDeep, "1", "", "-1"},
		{"blocks in one another", api.MaxDeep - 3, func(n int) string { return "fn main() { " + rep("{ ", n) + "print(1); " + rep("} ", n) + "}" }, api.ErrDeep, "1", "", "1"},
		{"loops in one another", api.MaxDeep - 2, func(n int) string {
			return "fn main() { let mut i = 0; " + rep("while i < 9 { ", n) + "i = 1 + i; " + rep("} ", n) + "print(i); }"
		}, api.ErrDeep, "i = 1", "", "9"},
		{"a row of sums", 4*api.MaxDeep - 5, func(n int) string { return "fn main() { print(0" + rep(" + 1", n) + "); }" }, api.ErrDeep, whole, "", "395"},
	}
}

func pickText(c bool, yes, no string) string {
	if c {
		return yes
	}
	return no
}

func numbers(n int) string { return strings.TrimSpace(each(n, "$ ")) }

// 27.1, 27.4, 27.7, P6: sources as long, wide and deep as they may be are compiled, and do what they say; one more is told where it stands.
func TestLimits(t *testing.T) {
	count := ends{}
	for _, c := range limits() {
		taken(t, c.source(c.most)).wantEnd([]byte(c.in), 0, c.out, count)
		source := c.source(c.most + 1)
		b, d := Compile(source)
		at := max(strings.LastIndex(source, c.at), 0)
		if c.at == "" {
			at = d.From
		}
		if c.at == whole && d.To != len(source) || c.at == whole && d.From > 0 {
			at = -1
		}
		if d.Code != c.code || d.Code != api.OK && (len(b) > 0 || d.From != at) || d.From < 0 || d.From > d.To || d.To > len(source) {
			t.Errorf("%s, one more: %v, not at %d", c.what, d, at)
		}
	}
}

// 27.1: what Front takes, and Compile does not, is too much for an image, and that is told of the whole source.
func TestTooMuch(t *testing.T) {
	const wide = "struct F { a: i64, b: i64, c: i64, d: i64, e: i64, f: i64, g: i64, h: i64 } struct G { a: F, b: F, c: F, d: F, e: F, f: F, g: F, h: F } fn g() -> G { let f = F { a: 1, b: 2, c: 3, d: 4, e: 5, f: 6, g: 7, h: 8 }; let k = f; panic() } "
	for _, c := range []struct {
		what, source string
	}{
		{"words of a frame", wide + "fn main() { " + each(65, "let a$ = g(); let b$ = &a$; ") + each(65, "print(b$.a.a); ") + "}"},
		{"items of an assembler", wide + "fn f(a: G) -> G { a } " + each(3, "fn h$() { let mut a = g(); "+strings.Repeat("a = f(a); ", 1000)+"} ") + "fn main() { h0(); h1(); h2(); }"},
	} {
		m, d := Front(c.source)
		if d != (api.Diag{}) || len(m.Fns) == 0 {
			t.Errorf("%s: %v", c.what, d)
		}
		if b, d := Compile(c.source); d != (api.Diag{Code: api.ErrLong, To: len(c.source)}) || len(b) > 0 {
			t.Errorf("%s: %v, %d bytes", c.what, d, len(b))
		}
	}
}
