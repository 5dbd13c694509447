package items

import (
	"strconv"
	"strings"
	"testing"

	"patina/api"
	"patina/parse"
)

const mainFn = " fn main() { }"

func treeOf(t *testing.T, source string) api.Tree {
	t.Helper()
	x, d := parse.Parse(source)
	if d.Code != api.OK {
		t.Fatalf("%q: %v", source, d)
	}
	return x
}

// wantFault holds a source, with [[ ]] round what is meant, to its error; without them both places are 0, or there is no error.
func wantFault(t *testing.T, marked string, code api.Errno) {
	t.Helper()
	want := api.Diag{Code: code}
	if from := strings.Index(marked, "[["); from >= 0 {
		want.From, want.To = from, strings.Index(marked, "]]")-2
	}
	source := strings.NewReplacer("[[", "", "]]", "").Replace(marked)
	it, d := Of(treeOf(t, source))
	if d != want {
		t.Errorf("%.300q tells %v, not %v", marked, d, want)
	}
	if d.Code != api.OK && !Same(it, api.Items{}) {
		t.Errorf("%q tells %v beside an error", marked, it)
	}
	if d.Code == api.OK && Check(it) != api.OK {
		t.Errorf("%q: Check of its items", marked)
	}
}

// 14.1: each row of errors, with each of its parts, and what is right beside it.
func TestFaults(t *testing.T) {
	for _, c := range []struct {
		code  api.Errno
		marks []string
	}{
		{api.OK, []string{
			"fn main() { }", "struct S { a: i64, b: Box<S> }" + mainFn, "struct S { } enum E { A } fn S() { } fn E() { }" + mainFn, "struct main { } struct print { } enum read { panic }" + mainFn,
			"struct S { S: i64, main: bool } enum E { E, S(S) }" + mainFn, "fn f(f: i64, main: i64, print: i64) { }" + mainFn, "fn main() { } fn f() -> S { S { } } struct S { }", "struct S { a: T } struct T { }" + mainFn,
			"fn f(a: &i64, b: &mut S, c: Box<S>) -> &S { a } struct S { }" + mainFn, "fn f() -> &mut Box<Box<i64>> { }" + mainFn, "fn main() -> () { }", "struct S { a: (), b: Box<()>, c: Box<Box<S>> }" + mainFn,
			"struct A { b: Box<B> } struct B { a: A }" + mainFn, "enum E { A(Box<E>), B }" + mainFn, "enum E { A(Box<E>) }" + mainFn, "struct A { b: B, c: C } struct B { c: C } struct C { a: Box<A> }" + mainFn, "struct S { a: T, b: T, c: T } enum T { A(U), B(U) } struct U { }" + mainFn,
			"fn f(a: i64) { let x: Nothing = 1; let y: Box<&i64> = 1; Nothing { }; g(E::V); x = y; break; }" + mainFn,
		}},
		{api.ErrDup, []string{
			"struct S { } [[struct S { }]]" + mainFn, "enum S { A } [[enum S { A }]]" + mainFn, "struct S { } [[enum S { A }]]" + mainFn, "enum S { A } [[struct S { }]]" + mainFn, "struct S { } struct T { } [[struct S { }]]" + mainFn, "struct S { } fn S() { } [[enum S { A }]]" + mainFn,
			"fn f() { } [[fn f() { }]]" + mainFn, "fn main() { } [[fn main() { }]]", "fn f() { } [[fn f(a: i64) -> i64 { a }]]" + mainFn, "fn f() { } struct f { } [[fn f() { }]]" + mainFn,
			"[[fn print() { }]]" + mainFn, "[[fn read() { }]]" + mainFn, "[[fn panic() { }]]" + mainFn, "fn main() { } [[fn print(x: i64) { }]]", "fn main() { } [[fn print() { }]] fn print() { }",
			"struct S { a: i64, [[a: i64]] }" + mainFn, "struct S { a: i64, b: i64, [[a: bool]], b: i64 }" + mainFn, "enum E { A, [[A]] }" + mainFn, "enum E { A, B(i64), [[A(i64)]] }" + mainFn, "fn f(x: i64, [[x: bool]]) { }" + mainFn, "fn f(mut x: i64, y: i64, [[mut y: bool]]) { }" + mainFn, "fn f(x: i64, [[mut x: i64]]) { }" + mainFn,
		}},
		{api.ErrUnknown, []string{
			"struct S { a: [[T]] }" + mainFn, "struct S { a: Box<[[T]]> }" + mainFn, "enum E { A([[T]]) }" + mainFn, "fn f(a: [[T]]) { }" + mainFn, "fn f() -> [[T]] { }" + mainFn, "fn f() -> & mut Box<[[T]]> { }" + mainFn, "fn f(a: &[[main]]) { }" + mainFn, "struct S { a: [[a]] }" + mainFn, "enum E { A([[A]]) }" + mainFn,
			"struct S { a: i64, b: S, c: [[T]], d: U }" + mainFn, "fn f(a: i64, b: [[T]]) -> U { }" + mainFn, "fn f(a: i64) -> [[U]] { }" + mainFn, "fn main(a: [[T]]) { }", "fn main() -> [[T]] { }", "fn f(a: & &[[T]]) { }" + mainFn, "struct S { a: &[[T]] }" + mainFn, "fn f(a: [[print]]) { }" + mainFn,
		}},
		{api.ErrInner, []string{
			"enum E { A([[&i64]]) }" + mainFn, "enum E { A([[&mut i64]]) }" + mainFn, "struct S { a: [[&i64]] }" + mainFn, "struct S { a: [[&mut S]] }" + mainFn, "struct S { a: Box<[[&i64]]> }" + mainFn, "struct S { a: [[& &mut i64]] }" + mainFn, "struct S { a: Box<Box<[[&mut Box<&i64>]]>> }" + mainFn,
			"fn f(x: Box<[[&i64]]>) { }" + mainFn, "fn f(x: & [[&i64]]) { }" + mainFn, "fn f(x: &mut [[&mut i64]]) { }" + mainFn, "fn f(x: &Box<[[& &i64]]>) { }" + mainFn, "fn f() -> Box<[[&i64]]> { }" + mainFn, "fn f() -> & [[&i64]] { }" + mainFn, "fn f(a: &i64, b: &i64) -> &mut Box<[[&mut bool]]> { }" + mainFn, "fn main(x: & [[& i64]]) { }",
			"struct S { a: i64, b: [[&i64]], c: &i64 }" + mainFn,
		}},
		{api.ErrEndless, []string{
			"[[struct S { a: S }]]" + mainFn, "[[struct S { a: i64, b: Box<S>, c: S }]]" + mainFn, "[[struct A { b: B }]] struct B { a: A }" + mainFn, "[[enum E { A(E) }]]" + mainFn, "[[enum E { A, B(E) }]]" + mainFn, "[[struct S { e: E }]] enum E { A, B(S) }" + mainFn, "[[enum E { A, B(S) }]] struct S { e: E }" + mainFn,
			"[[enum E { }]]" + mainFn, "struct S { a: E } [[enum E { }]]" + mainFn, "struct A { b: B } [[struct B { b: B }]]" + mainFn, "struct A { b: B } [[struct B { c: C }]] struct C { b: B }" + mainFn, "[[struct A { b: B }]] struct B { c: C } struct C { d: D } enum D { X, Y(A) }" + mainFn,
			"struct S { a: Box<T> } [[struct T { t: T }]]" + mainFn, "struct S { } fn f(a: &E) { } [[enum E { }]]" + mainFn,
		}},
		{api.ErrMain, []string{
			"", "fn f() { }", "struct main { }", "enum main { main }", "[[fn main() -> i64 { 1 }]]", "[[fn main(a: i64) { }]]", "[[fn main(a: i64) -> i64 { }]]", "[[fn main() -> &() { }]]", "[[fn main() -> Box<()> { }]]", "fn f() { } [[fn main() -> S { }]] struct S { }", "fn Main() { }", "[[fn main(a: ()) -> () { }]]",
		}},
	} {
		for _, s := range c.marks {
			wantFault(t, s, c.code)
		}
	}
}

// many are so many items of one form, in which # is a number.
func many(n int, form string) string {
	var s strings.Builder
	for k := range n {
		s.WriteString(strings.ReplaceAll(form, "#", strconv.Itoa(k)) + " ")
	}
	return s.String()
}

// list are so many parts of one form with commas between.
func list(n int, form string) string { return strings.Join(strings.Fields(many(n, form)), ",") }

// 14.1: each limit, and one beyond.
func TestLimits(t *testing.T) {
	const most = api.MaxItems
	structs, enums, fns := many(most, "struct S# {}"), many(most, "enum E# {A}"), many(most-1, "fn f#() {}")+mainFn
	wantFault(t, structs+enums+fns, api.OK)
	wantFault(t, structs+enums+fns+"[[struct T {}]]", api.ErrLong)
	wantFault(t, structs+enums+fns+"[[enum T {A}]]", api.ErrLong)
	wantFault(t, structs+enums+fns+"[[fn f() {}]]", api.ErrLong)
	wantFault(t, structs+enums+fns+"[[struct T {}]] enum T {} fn f() {}", api.ErrLong)
	wantFault(t, structs+enums+fns+"[[fn f() {}]] enum T {} struct T {}", api.ErrLong)
	wantFault(t, structs+enums+fns+"[[enum T {}]] struct T {} fn f() {} enum T {}", api.ErrLong)
	wantFault(t, structs+mainFn+"[[struct S0 { a: S0, b: &S0, a: T }]]", api.ErrLong)
	wantFault(t, "fn print() {} enum E { } "+structs+"[[struct T {}]]", api.ErrLong)
	wantFault(t, "struct S { "+list(api.MaxFields, "a#:i64")+" }"+mainFn, api.OK)
	wantFault(t, "[[struct S { "+list(api.MaxFields+1, "a#:i64")+" }]]"+mainFn, api.ErrLong)
	wantFault(t, "enum S { "+list(api.MaxFields, "A#(i64)")+" }"+mainFn, api.OK)
	wantFault(t, "[[enum S { "+list(api.MaxFields+1, "A#")+" }]]"+mainFn, api.ErrLong)
	wantFault(t, "fn f("+list(api.MaxParams, "a#:i64")+") { }"+mainFn, api.OK)
	wantFault(t, "[[fn f("+list(api.MaxParams+1, "a#:i64")+") { }]]"+mainFn, api.ErrLong)
	wantFault(t, "[[fn main("+list(api.MaxParams+1, "a:T")+") { }]]", api.ErrLong)
	wantFault(t, "[[fn main("+list(api.MaxParams, "a#:i64")+", a0: T) { }]]", api.ErrLong)
}

// sizesOf are structs of 16, 17, 255 and 256 parts, without words.
const sizesOf = "struct U16 { a0:(), a1:(), a2:(), a3:(), a4:(), a5:(), a6:(), a7:(), a8:(), a9:(), b0:(), b1:(), b2:(), b3:(), b4:() } " +
	"struct U17 { a0:(), a1:(), a2:(), a3:(), a4:(), a5:(), a6:(), a7:(), a8:(), a9:(), b0:(), b1:(), b2:(), b3:(), b4:(), b5:() } " +
	"struct U256 { a0:U17, a1:U17, a2:U17, a3:U17, a4:U17, a5:U17, a6:U17, a7:U17, a8:U17, a9:U17, b0:U17, b1:U17, b2:U17, b3:U17, b4:U17 } " +
	"struct U255 { a0:U17, a1:U17, a2:U17, a3:U17, a4:U17, a5:U17, a6:U17, a7:U17, a8:U17, a9:U17, b0:U17, b1:U17, b2:U17, b3:U17, b4:U16 } "

// 14.1: parts and words at their limits, and one beyond.
func TestSizes(t *testing.T) {
	mixed := "struct M16 { " + list(5, "a#:i64") + "," + list(5, "b#:bool") + "," + list(5, "c#:Box<U256>") + " } struct M255 { " + list(14, "a#:U17") + ", b: M16 } "
	words := "struct W16 { " + list(16, "a#:i64") + " } struct W15 { " + list(15, "a#:Box<W16>") + " } "
	for _, c := range []struct {
		code   api.Errno
		marked string
	}{
		{api.OK, sizesOf + "struct X { a: U256, b: U256, c: U256, d: U255 }"},
		{api.ErrLong, sizesOf + "[[struct X { a: U256, b: U256, c: U256, d: U256 }]]"},
		{api.ErrLong, sizesOf + "[[struct X { a: U256, b: U256, c: U256, d: U255, e: () }]]"},
		{api.ErrLong, sizesOf + "[[struct X { a: U256, b: U256, c: U256, d: U255, e: Box<i64> }]]"},
		{api.OK, sizesOf + mixed + "struct X { a: U256, b: U256, c: U256, d: M255 }"},
		{api.ErrLong, sizesOf + mixed + "[[struct X { a: U256, b: U256, c: U256, d: M255, e: i64 }]]"},
		{api.ErrLong, sizesOf + mixed + "[[struct X { a: U256, b: U256, c: U256, d: M255, e: bool }]]"},
		{api.ErrLong, sizesOf + mixed + "[[enum X { A(U256), B(U256), C(U256), D(M255), E(Box<X>) }]]"},
		{api.OK, sizesOf + "enum X { A(U256), B(U256), C(U256), D(U255) }"},
		{api.OK, sizesOf + "enum X { A(U256), B(U256), C(U256), D(U255), E, F }"},
		{api.ErrLong, sizesOf + "[[enum X { A(U256), B(U256), C(U256), D(U255), E(()) }]]"},
		{api.OK, sizesOf + "struct X { a: U256, b: U256, c: U256, d: Box<X>, e: U17 }"},
		{api.ErrLong, sizesOf + "struct X { a: U256, b: U256 } [[struct Y { a: X, b: X }]]"},
		{api.ErrLong, "[[struct Y { a: X, b: X }]] struct X { a: U256, b: U256 } " + sizesOf},
		{api.ErrLong, "struct X { a: U256, b: U256 } [[struct Z { y: Y }]] struct Y { a: X, b: X } " + sizesOf},
		{api.OK, words + "struct X { a: W16, b: W16, c: W16, d: W16 }"},
		{api.OK, words + "struct X { a: W16, b: W16, c: W16, d: W15, e: bool, f: (), g: () }"},
		{api.ErrLong, words + "[[struct X { a: W16, b: W16, c: W16, d: W16, e: bool }]]"},
		{api.ErrLong, words + "[[struct X { a: W16, b: W16, c: W16, d: W15, e: bool, f: Box<i64> }]]"},
		{api.OK, words + "struct X { a: W16, b: W16, c: W16, d: W15 } enum E { A(X), B(X), C(X), D }"},
		{api.ErrLong, words + "struct X { a: W16, b: W16, c: W16, d: W16 } [[enum E { A, B(X) }]]"},
		{api.ErrLong, words + "[[struct X { a: W16, b: W16, c: W16, d: E }]] enum E { A(W16) }"},
		{api.OK, words + "struct X { a: W16, b: W16, c: W16, d: E } enum E { A(W15), B(i64), C }"},
		{api.OK, words + "struct X { a: W16, b: W16, c: W16, d: W16 } fn f(a: X, b: X, c: &X) -> X { }"},
		{api.ErrLong, words + "[[struct X { e: E }]] enum E { A(Y) } struct Y { a: W16, b: W16, c: W16, d: W16 }"},
	} {
		wantFault(t, c.marked+mainFn, c.code)
	}
}

// 14.1, P1: types that grow beyond all numbers; the first one that is too great is told.
func TestGrowth(t *testing.T) {
	grown := func(n, first int) string {
		var s strings.Builder
		for k := range n {
			inner := strings.ReplaceAll("a:T", "T", "L"+strconv.Itoa(k+1))
			item := "struct L" + strconv.Itoa(k) + " { " + inner + "," + strings.Replace(inner, "a:", "b:", 1) + "," + strings.Replace(inner, "a:", "c:", 1) + " }"
			if k == first {
				item = "[[" + item + "]]"
			}
			s.WriteString(item + " ")
		}
		return s.String() + "struct L" + strconv.Itoa(n) + " { }" + mainFn
	}
	wantFault(t, grown(5, -1), api.OK)     // 364 parts
	wantFault(t, grown(6, 0), api.ErrLong) // 1093
	wantFault(t, grown(60, 0), api.ErrLong)
	wantFault(t, strings.Replace(grown(60, 1), "L1,b:L1,c:L1", "Box<L1>", 1), api.ErrLong)
}

// 14.1: of two faults of one item, or of two types, the one that comes first.
func TestOrderInside(t *testing.T) {
	fields := list(api.MaxFields, "a#:i64")
	for _, c := range []struct {
		code   api.Errno
		marked string
	}{
		{api.ErrDup, "struct S { } [[struct S { " + fields + ",a0:i64 }]]"}, {api.ErrLong, "[[struct S { a0:i64," + fields + " }]]"}, {api.ErrLong, "[[fn f(a: i64, a: i64, a: i64, a: i64, a: i64, a: i64, a: i64) { }]]"},
		{api.ErrDup, "[[fn print(a: i64, a: i64, a: i64, a: i64, a: i64, a: i64, a: i64) { }]]"}, {api.ErrDup, "fn f(a: T, [[a: U]]) -> V { }"}, {api.ErrDup, "struct S { a: &T, [[a: S]] }"}, {api.ErrDup, "enum E { A(E), [[A(E)]] }"},
		{api.ErrDup, "struct S { a: i64, [[a: i64]] } struct S { }"}, {api.ErrDup, "struct S { } [[enum S { A, A }]] struct T { a: i64, a: i64 }"}, {api.ErrUnknown, "fn f(a: & &[[T]], b: & &i64) { }"}, {api.ErrInner, "fn f(a: & [[&i64]], b: T) -> T { }"},
		{api.ErrInner, "fn f(a: i64) -> Box<[[&i64]]> { } struct S { a: T }"}, {api.ErrUnknown, "fn f(a: &i64) -> [[T]] { } struct S { a: &i64 }"}, {api.ErrUnknown, "struct S { a: S, b: [[T]] }"}, {api.ErrInner, "struct S { a: S, b: [[&S]] }"},
		{api.ErrEndless, "struct A { b: B } [[struct B { b: B }]] enum E { }"}, {api.ErrEndless, "[[struct A { b: B }]] struct B { b: B, a: A } enum E { }"}, {api.ErrEndless, "[[enum E { }]] struct B { b: B }"},
		{api.ErrEndless, sizesOf + "struct X { a: U256, b: U256, c: U256, d: U256 } [[enum E { }]]"}, {api.ErrEndless, sizesOf + "[[struct X { a: U256, b: U256, c: U256, d: U256, x: X }]]"}, {api.ErrLong, sizesOf + "[[struct X { a: U256, b: U256, c: U256, d: U256 }]] fn main(a: i64) { }"},
	} {
		source := c.marked
		if !strings.Contains(source, "fn main") {
			source += mainFn
		}
		wantFault(t, source, c.code)
		wantFault(t, c.marked, c.code) // without a main: that comes last
	}
}

// 14.1: of two faults, in either order, that of the lesser step, and of one step the first in the source.
func TestOrderOfSteps(t *testing.T) {
	type snippet struct {
		step   int
		code   api.Errno
		marked string
	}
	words := list(16, "a#:i64")
	l := []snippet{
		{3, api.ErrDup, "struct Da { } [[struct Da { }]]"}, {3, api.ErrDup, "struct Db { } [[enum Db { A }]]"}, {3, api.ErrDup, "fn dc() { } [[fn dc() { }]]"}, {3, api.ErrDup, "[[fn read() { }]]"},
		{3, api.ErrLong, "[[struct Dd { " + words + ",b:i64 }]]"}, {3, api.ErrLong, "[[enum De { " + list(17, "A#") + " }]]"}, {3, api.ErrLong, "[[fn de(" + list(7, "a#:i64") + ") { }]]"},
		{3, api.ErrDup, "struct Df { a: i64, [[a: i64]] }"}, {3, api.ErrDup, "enum Dg { A, [[A]] }"}, {3, api.ErrDup, "fn dh(a: i64, [[a: i64]]) { }"},
		{4, api.ErrUnknown, "struct Ua { a: [[None]] }"}, {4, api.ErrUnknown, "enum Ub { A([[None]]) }"}, {4, api.ErrUnknown, "fn uc(a: [[None]]) { }"}, {4, api.ErrUnknown, "fn ud() -> [[None]] { }"},
		{4, api.ErrInner, "struct Ia { a: [[&i64]] }"}, {4, api.ErrInner, "enum Ib { A([[&mut i64]]) }"}, {4, api.ErrInner, "fn ic(a: Box<[[&i64]]>) { }"}, {4, api.ErrInner, "fn id() -> & [[&i64]] { }"},
		{5, api.ErrEndless, "[[struct Ea { a: Ea }]]"}, {5, api.ErrEndless, "[[enum Eb { A(Eb) }]]"}, {5, api.ErrEndless, "[[enum Ec { }]]"},
		{6, api.ErrLong, "struct Wa { " + words + " } [[struct Wb { a: Wa, b: Wa, c: Wa, d: Wa, e: i64 }]]"}, {6, api.ErrLong, sizesOf + "[[struct Wc { a: U256, b: U256, c: U256, d: U256 }]]"},
		{7, api.ErrMain, "[[fn main(a: i64) { }]]"}, {7, api.ErrMain, "[[fn main() -> i64 { }]]"}, {7, api.ErrMain, ""},
	}
	plain := func(s string) string { return strings.NewReplacer("[[", "", "]]", "").Replace(s) }
	for i, a := range l {
		for k, b := range l {
			if i == k || a.step == 7 && b.step == 7 {
				continue
			}
			source, code := a.marked+" "+plain(b.marked), a.code
			if b.step < a.step {
				source, code = plain(a.marked)+" "+b.marked, b.code
			}
			if a.step < 7 && b.step < 7 {
				source += mainFn
			}
			wantFault(t, source, code)
		}
		for _, c := range [][2]string{{"struct ", "struct Sm# { }"}, {"enum ", "enum Em# { A }"}, {"fn ", "fn fm#() { }"}} { // step 2 comes ahead of all, wherever they stand
			source := many(api.MaxItems, c[1]) + "[[" + strings.ReplaceAll(c[1], "#", "") + "]] "
			wantFault(t, source+plain(a.marked), api.ErrLong)
			source = plain(a.marked) + " " + many(2*api.MaxItems, c[1])
			at := 0
			for range api.MaxItems + 1 {
				at += 1 + strings.Index(source[at:], c[0])
			}
			end := at - 1 + strings.Index(source[at-1:], "}") + 1
			wantFault(t, source[:at-1]+"[["+source[at-1:end]+"]]"+source[end:], api.ErrLong)
		}
	}
}
