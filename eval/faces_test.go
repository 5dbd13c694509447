package eval

import (
	"math"
	"slices"
	"strings"
	"testing"

	"patina/api"
	"patina/check"
	"patina/parse"
)

// wrongOnes are typed trees that are not right.
func wrongOnes(u api.Typed) []api.Typed {
	other := u
	other.Types = slices.Clone(u.Types)
	other.Types[slices.Index(u.Types, "i64")] = "bool"
	vars := u
	vars.Vars = slices.Clone(u.Vars)
	vars.Vars[0] = 7
	return []api.Typed{{}, other, vars, {Tree: u.Tree}, {Tree: u.Tree, Items: u.Items, Types: u.Types, Vars: u.Vars}}
}

// 18.1: ErrTyped; ErrLong; ErrArg.
func TestRunErrors(t *testing.T) {
	u := typedOf(t, source("print(read());"))
	long := make([]byte, api.MaxSource+1)
	for _, w := range wrongOnes(u) {
		if o, e := Run(w, long, -1); e != api.ErrTyped || !sameOutcome(o, api.Outcome{}) {
			t.Error(o, e)
		}
	}
	for _, c := range []struct {
		in   []byte
		fuel int
		e    api.Errno
		end  int
	}{
		{long, -1, api.ErrLong, 0}, {long, 100, api.ErrLong, 0}, {long[1:], -1, api.ErrArg, 0}, {nil, -1, api.ErrArg, 0}, {nil, math.MinInt64, api.ErrArg, 0}, {long[1:], 100, api.OK, api.EndDone}, {nil, 0, api.OK, api.EndFuel}, {nil, 3, api.OK, api.EndFuel}, {nil, 4, api.OK, api.EndDone}, {nil, math.MaxInt64, api.OK, api.EndDone},
	} {
		o, e := Run(u, c.in, c.fuel)
		if e != c.e || o.End != c.end || e != api.OK && !sameOutcome(o, api.Outcome{}) {
			t.Errorf("%d bytes, %d: %v %v", len(c.in), c.fuel, o, e)
		}
	}
}

const functions = "fn none() { print(1); } fn one(x: i64) -> i64 { x * 2 } fn six(a: i64, b: i64, c: i64, d: i64, e: i64, f: i64) -> i64 { print(a); print(b); print(c); print(d); print(e); print(f); a - f } " +
	"fn flag(x: bool) { } fn tells() -> bool { true } fn box_of(x: i64) -> Box<i64> { Box::new(x) } fn lent(x: i64, r: &i64) { } fn unit(u: ()) { } fn stops(x: i64) -> i64 { print(x); if x == 1 { panic(); } if x == 2 { 1 / 0; } if x == 3 { while true { } } if x == 4 { let b = Box::new(1); eat(b); eat(b); } if x == 5 { return 50; } if x == 6 { return again(0); } if x == 7 { 9223372036854775807 + x; } read() } fn eat(b: Box<i64>) { } fn again(x: i64) -> i64 { again(x) } fn main() { print(9); } "

func functionOf(u api.Typed, name string) int {
	return slices.IndexFunc(u.Items.Fns, func(f api.Fn) bool { return f.Name == name })
}

// 18.2: functions with all kinds of parameters and results.
func TestCall(t *testing.T) {
	u := typedOf(t, functions)
	for _, c := range []struct {
		name string
		args []int64
		v    int64
		o    api.Outcome
		e    api.Errno
	}{
		{"none", nil, 0, api.Outcome{End: api.EndDone, Out: []byte("1\n"), Steps: 4}, api.OK}, {"none", []int64{}, 0, api.Outcome{End: api.EndDone, Out: []byte("1\n"), Steps: 4}, api.OK}, {"one", []int64{21}, 42, api.Outcome{End: api.EndDone, Steps: 4}, api.OK}, {"one", []int64{math.MinInt64}, 0, api.Outcome{End: api.EndDone, Code: api.ExitOverflow, Steps: 4}, api.OK}, {"six", []int64{1, 2, 3, 4, 5, 6}, -5, api.Outcome{End: api.EndDone, Out: []byte("1\n2\n3\n4\n5\n6\n"), Steps: 1 + 18 + 3}, api.OK}, {"main", nil, 0, api.Outcome{End: api.EndDone, Out: []byte("9\n"), Steps: 4}, api.OK},
		{"none", []int64{1}, 0, api.Outcome{}, api.ErrArg}, {"one", nil, 0, api.Outcome{}, api.ErrArg}, {"one", []int64{1, 2}, 0, api.Outcome{}, api.ErrArg}, {"six", []int64{1, 2, 3, 4, 5}, 0, api.Outcome{}, api.ErrArg}, {"flag", []int64{1}, 0, api.Outcome{}, api.ErrArg}, {"tells", nil, 0, api.Outcome{}, api.ErrArg}, {"box_of", []int64{1}, 0, api.Outcome{}, api.ErrArg}, {"lent", []int64{1, 2}, 0, api.Outcome{}, api.ErrArg}, {"unit", []int64{1}, 0, api.Outcome{}, api.ErrArg}, {"unit", nil, 0, api.Outcome{}, api.ErrArg}, {"eat", []int64{1}, 0, api.Outcome{}, api.ErrArg},
	} {
		v, o, e := Call(u, functionOf(u, c.name), c.args, []byte("A"), 1000)
		if v != c.v || !sameOutcome(o, c.o) || e != c.e {
			t.Errorf("%s %v: %d %v %v", c.name, c.args, v, o, e)
		}
	}
	for x, want := range map[int64]api.Outcome{0: {End: api.EndDone}, 1: {End: api.EndDone, Code: api.ExitPanic}, 2: {End: api.EndDone, Code: api.ExitDivide}, 3: {End: api.EndFuel}, 4: {End: api.EndUndef}, 5: {End: api.EndDone}, 6: {End: api.EndFuel}, 7: {End: api.EndDone, Code: api.ExitOverflow}} {
		v, o, e := Call(u, functionOf(u, "stops"), []int64{x}, []byte("A"), 100000)
		told := map[int64]int64{0: 65, 5: 50}[x]
		if v != told || o.End != want.End || o.Code != want.Code || string(o.Out) != string(rune('0'+x))+"\n" || e != api.OK || x == 3 && o.Steps != 100000 {
			t.Errorf("%d: %d %v %v", x, v, o, e)
		}
	}
}

// 18.2: ErrTyped; ErrNone; ErrArg of the function and args; ErrLong; ErrArg of fuel.
func TestCallErrors(t *testing.T) {
	u := typedOf(t, functions)
	long := make([]byte, api.MaxSource+1)
	want := func(u api.Typed, f int, args []int64, in []byte, fuel int, code api.Errno) {
		t.Helper()
		v, o, e := Call(u, f, args, in, fuel)
		if e != code || e != api.OK && (v != 0 || !sameOutcome(o, api.Outcome{})) {
			t.Errorf("%d %v %d: %d %v %v, not %v", f, args, fuel, v, o, e, code)
		}
	}
	for _, w := range wrongOnes(u) {
		want(w, -1, nil, long, -1, api.ErrTyped)
		want(w, 1, []int64{1}, nil, 1, api.ErrTyped)
	}
	one, flag := functionOf(u, "one"), functionOf(u, "flag")
	for _, f := range []int{-1, len(u.Items.Fns), math.MaxInt64, math.MinInt64} {
		want(u, f, nil, long, -1, api.ErrNone)
	}
	want(u, one, nil, long, -1, api.ErrArg)
	want(u, flag, []int64{1}, long, 5, api.ErrArg)
	want(u, one, []int64{1}, long, -1, api.ErrLong)
	want(u, one, []int64{1}, long, 5, api.ErrLong)
	want(u, one, []int64{1}, long[1:], -1, api.ErrArg)
	want(u, one, []int64{1}, long[1:], 0, api.OK)
	want(u, one, []int64{1}, nil, 5, api.OK)
}

// 18.3: what expressions tell by themselves.
func TestConstant(t *testing.T) {
	for _, c := range []struct {
		text string
		v    int64
		ok   bool
	}{
		{"1", 1, true}, {"0", 0, true}, {"9223372036854775807", math.MaxInt64, true}, {"true", 1, true}, {"false", 0, true}, {"-5", -5, true}, {"- -5", 5, true}, {"!true", 0, true}, {"!!true", 1, true}, {"(1 + 2) * 3 - 4 / 2 % 3", 7, true}, {"-9223372036854775807 - 1", math.MinInt64, true}, {"-7 / 2", -3, true}, {"-7 % 2", -1, true},
		{"1 < 2", 1, true}, {"2 <= 1", 0, true}, {"1 > 2", 0, true}, {"2 >= 2", 1, true}, {"1 == 2", 0, true}, {"1 != 2", 1, true}, {"true == false", 0, true}, {"true != false", 1, true}, {"true && false", 0, true}, {"true || false", 1, true}, {"(1 < 2) == !false", 1, true},
		// what ends a program
		{"1 / 0", 0, false}, {"1 % 0", 0, false}, {"9223372036854775807 + 1", 0, false}, {"-9223372036854775807 - 2", 0, false}, {"-(-9223372036854775807 - 1)", 0, false}, {"(-9223372036854775807 - 1) / -1", 0, false}, {"(-9223372036854775807 - 1) % -1", 0, false}, {"4611686018427387904 * 2", 0, false}, {"1 + (2 + 1 / 0)", 0, false}, {"1 / 0 == 1 && false", 0, false}, {"!(1 / 0 == 1)", 0, false}, {"true && 1 / 0 == 1", 0, false}, {"false || 1 / 0 == 1", 0, false},
		// what is not walked ends none
		{"false && 1 / 0 == 1", 0, true}, {"true || 1 / 0 == 1", 1, true},
		// what is something else, or has something else below it, walked or not
		{"()", 0, false}, {"x", 0, false}, {"x + 1", 0, false}, {"1 + x", 0, false}, {"-x", 0, false}, {"1 + 2 * (3 - x)", 0, false}, {"false && c", 0, false}, {"true || c", 0, false}, {"read()", 0, false}, {"1 + read()", 0, false}, {"panic()", 0, false}, {"id(1)", 0, false}, {"id(1) + 1", 0, false}, {"{ 1 }", 0, false}, {"1 + { 2 }", 0, false}, {"if true { 1 } else { 2 }", 0, false}, {"match 1 { _ => 2 }", 0, false}, {"Box::new(1)", 0, false}, {"*b", 0, false}, {"*b + 1", 0, false}, {"&x", 0, false}, {"*&x", 0, false}, {"d.x", 0, false}, {"D { x: 1, y: true }", 0, false}, {"N { }", 0, false}, {"E::A", 0, false}, {"E::B(1)", 0, false},
	} {
		for _, brackets := range []string{"let k = %;", "let k = (%);", "let k = ((%));"} {
			if c.text == "panic()" {
				brackets = strings.Replace(brackets, "let k = ", "", 1)
			}
			u := typedOf(t, source("let x = 1; let c = true; let b = Box::new(1); let d = D { x: 1, y: true }; { "+strings.Replace(brackets, "%", c.text, 1)+" }"))
			at := slices.IndexFunc(u.Tree.Nodes, func(x api.Node) bool {
				return x.Kind == api.KLet && x.Name == "k" || x.Kind == api.KDo && c.text == "panic()" && u.Types[x.Kids[0]] == "!"
			})
			n := u.Tree.Nodes[at].Kids[0]
			v, ok, e := Constant(u, n)
			if v != c.v || ok != c.ok || e != api.OK {
				t.Errorf("%s: %d %v %v", c.text, v, ok, e)
			}
		}
	}
}

// 18.3: ErrTyped; ErrNone; ErrArg of all that is no expression.
func TestConstantErrors(t *testing.T) {
	u := typedOf(t, source("let mut x: i64 = 1; x = 2; while false { break; continue; } match x { 1 => (), _ => () }; let s = S { a: 1, b: Box::new(2) }; return; "))
	for _, w := range wrongOnes(u) {
		for _, n := range []int{-1, 0, len(w.Tree.Nodes)} {
			if v, ok, e := Constant(w, n); v != 0 || ok || e != api.ErrTyped {
				t.Error(v, ok, e)
			}
		}
	}
	for _, n := range []int{-1, math.MinInt64, len(u.Tree.Nodes), math.MaxInt64} {
		if v, ok, e := Constant(u, n); v != 0 || ok || e != api.ErrNone {
			t.Error(v, ok, e)
		}
	}
	for n, x := range u.Tree.Nodes {
		want := api.ErrArg
		if _, e := check.Place(u, n); e == api.OK { // which is told of expressions alone
			want = api.OK
		}
		v, ok, e := Constant(u, n)
		if e != want || ok != (x.Kind == api.KNum || x.Kind == api.KTruth || x.Kind == api.KNeg || x.Kind == api.KBin && constantKids(u, n)) || !ok && v != 0 {
			t.Errorf("node %d of kind %d: %d %v %v", n, x.Kind, v, ok, e)
		}
	}
}

func constantKids(u api.Typed, n int) bool {
	return !slices.ContainsFunc(u.Tree.Nodes[n].Kids, func(k int) bool { _, ok, _ := Constant(u, k); return !ok })
}

// 18.5: brackets, names and places in the source say nothing.
func TestNames(t *testing.T) {
	plain := "struct A { p: i64, q: Box<i64> } enum C { D, F(A) } fn f(x: i64) -> i64 { let y = x; y + 1 } fn main() { let c = C::F(A { p: 1, q: Box::new(f(2)) }); match c { C::F(a) => print(a.p + *a.q * 2), _ => () } }"
	others := []string{
		"struct Second { first: i64, next_one: Box<i64> } enum Main { D, Other(Second) } fn g(a: i64) -> i64 { let b = a; b + 1 } fn main() { let zz = Main::Other(Second { first: 1, next_one: Box::new(g(2)) }); match zz { Main::Other(it) => print(it.first + *it.next_one * 2), _ => () } }",
		strings.ReplaceAll(plain, " ", "\n\n "), strings.NewReplacer("f(2)", "(f((2)))", "*a.q * 2", "((*(a.q)) * (2))", "y + 1", "((y) + 1)").Replace(plain),
	}
	want, _ := Run(typedOf(t, plain), nil, 1000)
	if want.End != api.EndDone || string(want.Out) != "7\n" {
		t.Fatal(want)
	}
	for _, s := range others {
		if o, e := Run(typedOf(t, s), nil, 1000); e != api.OK || !sameOutcome(o, want) {
			t.Errorf("%v %v: %s", o, e, s)
		}
	}
	x, _ := parse.Parse(plain)
	for k := range x.Nodes {
		x.Nodes[k].From, x.Nodes[k].To = 3, 9
	}
	u, _ := check.Of(x)
	if o, e := Run(u, nil, 1000); e != api.OK || !sameOutcome(o, want) {
		t.Error(o, e)
	}
}

// R3: what is handed in stays, and answers are new memory.
func TestMemory(t *testing.T) {
	text := source("print(read()); print(read()); print(12345); let b = Box::new(read());")
	u, same := typedOf(t, text), typedOf(t, text)
	whole := []byte("ABC spare")
	in := whole[:3]
	first, _ := Run(u, in, 1000)
	second, _ := Run(u, in, 1000)
	for k := range first.Out[:cap(first.Out)] {
		first.Out[:cap(first.Out)][k] = 'x'
	}
	if string(whole) != "ABC spare" || !check.Same(u, same) || string(second.Out) != "65\n66\n12345\n" {
		t.Errorf("%q %q", whole, second.Out)
	}
	whole[0] = 'Z'
	if string(second.Out) != "65\n66\n12345\n" {
		t.Errorf("%q", second.Out)
	}
	args := []int64{1, 2, 3}
	v := typedOf(t, functions)
	Call(v, functionOf(v, "one"), args[:1], in, 100)
	if !slices.Equal(args, []int64{1, 2, 3}) {
		t.Error(args)
	}
}
