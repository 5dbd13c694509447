package driver

import (
	"strings"
	"testing"

	"patina/api"
)

// fault is items with which one pass alone finds something wrong: at a text that stands there once; at all of the items, or, if the whole is to be told, of the source.
type fault struct {
	pass  string
	items string
	code  api.Errno
	at    string
}

const (
	allItems = "the items"
	whole    = "the whole"
)

// faults are one of each pass at least, in the order of the passes.
func faults() [][]fault {
	ifs := strings.Repeat("if t { } ", 400)
	edges := strings.Repeat("if t { b; } b = Box::new(1); ", 300)
	return [][]fault{
		{{"parse", "fn p1() { \x80 } ", api.ErrUtf, "\x80"}, {"parse", "fn p1() { # } ", api.ErrByte, "#"}, {"parse", "fn p1() { 1z; } ", api.ErrNumber, "1z"}},
		{{"parse", "fn p2() { let while = 1; } ", api.ErrExpect, "while"}, {"parse", "fn p2(, ) { } ", api.ErrExpect, ","}},
		{{"items", "fn p3() { } struct A3 { a: Q3 } ", api.ErrUnknown, "Q3"}, {"items", "struct A3 { f: A3 } ", api.ErrEndless, "struct A3 { f: A3 }"}, {"items", "struct A3 { f: &i64 } ", api.ErrInner, "&i64"}},
		{{"check", "fn p4() { 1 + true; } ", api.ErrType, "true"}, {"check", "fn p4() { z4; } ", api.ErrVar, "z4"}, {"check", "fn p4() { none4(); } ", api.ErrCall, "none4()"}, {"check", "fn p4() { break; } ", api.ErrLoop, "break"}, {"check", "fn p4() { let r = &1; } ", api.ErrPlace, "1"}, {"check", "fn p4() { let x = 1; x = 2; } ", api.ErrMut, "x"}},
		{{"cover", "fn p5(t: bool) { match t { true => { } } } ", api.ErrMissing, "match t { true => { } }"}, {"cover", "fn p5(t: bool) { match t { _ => { } true => { } } } ", api.ErrNever, "true"}},
		{{"build", "fn p6(t: bool) { " + ifs + "} ", api.ErrLong, allItems}},
		{{"moves", "fn p7() { let b = Box::new(1); let c = b; let d = *b; } ", api.ErrMoved, "*b"}, {"moves", "fn p7(r: &Box<i64>) -> Box<i64> { *r } ", api.ErrMoveOut, "*r"}},
		{{"drops", "fn p8(t: bool) { let mut b = Box::new(1); " + edges + "} ", api.ErrLong, whole}},
		{{"loans", "fn p9() { let mut a = 1; let r = &mut a; a = 2; let c = *r; } ", api.ErrBorrow, "a = 2"}, {"loans", "fn p9(a: i64) -> &i64 { &a } ", api.ErrGone, "}"}},
		{{"image", "struct F0 { a: i64, b: i64, c: i64, d: i64, e: i64, f: i64, g: i64, h: i64 } struct G0 { a: F0, b: F0, c: F0, d: F0, e: F0, f: F0, g: F0, h: F0 } fn g0() -> G0 { panic() } fn p0() { " + strings.Repeat("let a = g0(); let b = &a; print(b.a.a); ", 65) + "} ", api.ErrLong, whole}},
	}
}

// diag is what is told where it is the first thing that is wrong in a source.
func (f fault) diag(source string) api.Diag {
	d := api.Diag{Code: f.code, To: len(source)}
	if f.at == whole {
		return d
	}
	at := strings.TrimSuffix(f.items, " ")
	if f.at != allItems {
		at = f.at
	}
	d.From = strings.Index(source, f.items) + strings.LastIndex(f.items, at)
	d.To = d.From + len(at)
	return d
}

// wantFirst holds the source that has some faults to the one that is told.
func wantFirst(t *testing.T, source string, first fault) {
	t.Helper()
	want := first.diag(source)
	b, d := Compile(source)
	if d != want || len(b) > 0 {
		t.Fatalf("%v, not %v of %s\n%.2000q", d, want, first.pass, source)
	}
	m, d := Front(source)
	if first.pass == "image" {
		want = api.Diag{}
	}
	if d != want || want.Code != api.OK && (len(m.Fns) > 0 || len(m.Items.Fns) > 0) {
		t.Fatalf("Front: %v, not %v of %s\n%.2000q", d, want, first.pass, source)
	}
}

// 27.1, P6: what is wrong first, of sources that are wrong in one pass, and in two and in all from one on, wherever they stand.
func TestFirst(t *testing.T) {
	const main = "fn main() { p0(); } "
	const rest = "fn p0() { } "
	all := faults()
	for k, l := range all {
		for _, f := range l {
			own := rest
			if f.pass == "image" {
				own = ""
			}
			wantFirst(t, f.items+own+main, f)
			wantFirst(t, own+main+f.items, f)
			for _, later := range all[k+1:] {
				if g := later[0]; g.pass != "image" {
					wantFirst(t, g.items+f.items+own+main, f)
					wantFirst(t, f.items+g.items+own+main, f)
				} else {
					wantFirst(t, main+g.items+f.items, f)
				}
			}
		}
		behind := main
		for j := len(all) - 1; j >= k; j-- {
			behind += all[j][0].items
		}
		wantFirst(t, behind, l[0])
	}
}

// 27.1: sources of which nothing but one thing is wrong, as the examples have them.
func TestExamples(t *testing.T) {
	for _, c := range []struct {
		source string
		code   api.Errno
		at     string
	}{
		{"fn main() { let b = Box::new(1); let c = b; print(*b); }", api.ErrMoved, "*b"}, {"fn main() { let r = &1; }", api.ErrPlace, "1"}, {"fn main() { let mut a = 1; let r = &mut a; a = 2; print(*r); }", api.ErrBorrow, "a = 2"}, {"fn main() { let mut a = 1; let r = &mut a; a = 2; }", api.OK, ""}, {"fn f(x: i64) -> &i64 { &x } fn main() { }", api.ErrGone, "}"},
		{"fn main() { if read() == 0 { } let b = Box::new(1); if read() == 0 { let d = b; } print(*b); }", api.ErrMoved, "*b"}, {"enum E { A, B } fn main() { match E::A { E::A => 1 }; }", api.ErrMissing, "match E::A { E::A => 1 }"}, {"fn main() { print(6 * 7); }", api.OK, ""}, {"fn main() { let mut i = 9223372036854775807; i = i + 1; }", api.OK, ""},
		{"", api.ErrMain, ""}, {"fn f() { }", api.ErrMain, ""}, {"fn main(a: i64) { }", api.ErrMain, "fn main(a: i64) { }"}, {"fn main() -> i64 { 1 }", api.ErrMain, "fn main() -> i64 { 1 }"}, {"fn main() { } fn main() { }", api.ErrDup, "fn main() { }"}, {"fn main() { print(99999999999999999999); }", api.ErrNumber, "99999999999999999999"}, {"// \xff", api.ErrUtf, "\xff"}, {"fn main() {", api.ErrExpect, ""}, {"fn main() { é }", api.ErrByte, "é"},
	} {
		want := api.Diag{Code: c.code}
		if c.code != api.OK {
			want.From = strings.LastIndex(c.source, c.at)
			if c.code == api.ErrGone {
				want.From = strings.Index(c.source, c.at)
			}
			want.To = want.From + len(c.at)
		}
		if c.code == api.ErrMain && c.at == "" {
			want.From, want.To = 0, 0
		}
		b, d := Compile(c.source)
		if d != want || (len(b) > 0) != (c.code == api.OK) {
			t.Errorf("%v, not %v\n%s", d, want, c.source)
		}
	}
}

// 27.1: loans are looked for in what drops made: what is dropped on an edge is lent no more, though its scope goes on.
func TestLoansOfDefinite(t *testing.T) {
	const lent = "fn main() { let z = 1; let b = Box::new(2); let mut r = &*b; if read() == 0 { r = &z; let c = b; } print(%); }"
	if _, d := Compile(strings.Replace(lent, "%", "*r", 1)); d != (api.Diag{Code: api.ErrGone}) {
		t.Error(d)
	}
	taken(t, strings.Replace(lent, "%", "z", 1)).wantEnd(nil, 0, "1", ends{})
}

// 27.2: what is wrong by parse, check and cover alone keeps a source from being run.
func TestSourceFirst(t *testing.T) {
	const main = "fn p0() { } fn main() { print(3); } "
	long := make([]byte, api.MaxSource+1)
	for k, l := range faults() {
		for _, f := range l {
			source := f.items + main
			if f.pass == "image" {
				source = "fn p() { } fn main() { print(3); } " + f.items
			}
			want, out := f.diag(source), ""
			if k > 4 {
				want, out = api.Diag{}, "3\n"
			}
			o, d := Source(source, nil, 1000)
			if d != want || string(o.Out) != out || want.Code != api.OK && o.Steps+o.End > 0 {
				t.Errorf("%s: %v %v, not %v", f.pass, o, d, want)
			}
			if want.Code != api.OK {
				if _, d := Source(source, long, -1); d != want {
					t.Errorf("%s: %v, not %v", f.pass, d, want)
				}
			}
		}
	}
}
