package check

import (
	"math"
	"math/rand"
	"slices"
	"strconv"
	"strings"
	"testing"

	"patina/api"
	"patina/items"
	"patina/parse"
	"patina/sourcetest"
	"patina/tree"
	"patina/types"
)

func isPattern(kind int) bool { return kind >= api.KPAny && kind <= api.KPPick }

// markedNode is the expression or pattern of a typed tree that stands at some places.
func markedNode(t *testing.T, x api.Typed, from, to int) int {
	t.Helper()
	found := -1
	for k, n := range x.Tree.Nodes {
		if n.From == from && n.To == to && (isExpr(n.Kind) || isPattern(n.Kind)) {
			found = k
		}
	}
	if found < 0 {
		t.Fatal("no node at", from, to)
	}
	return found
}

// 16.1: the type of each kind of expression and of pattern.
func TestTypesTold(t *testing.T) {
	for _, c := range []struct{ body, want string }{
		{"[[1]];", "i64"}, {"[[true]];", "bool"}, {"[[()]];", "()"}, {"[[v]];", "i64"}, {"[[s]];", "&S"}, {"[[m]];", "&mut S"}, {"[[b]];", "Box<S>"}, {"[[p]];", "P"},
		{"[[f(1)]];", "i64"}, {"[[two(1, c)]];", "bool"}, {"[[lend(s)]];", "&S"}, {"[[give(m)]];", "&mut S"}, {"[[own()]];", "Box<S>"}, {"[[nil()]];", "()"}, {"[[print(1)]];", "()"}, {"[[read()]];", "i64"}, {"[[panic()]];", "!"}, {"f([[v]]);", "i64"},
		{"[[N { }]];", "N"}, {"[[S { a: 1, b: Box::new(1) }]];", "S"}, {"[[W { u: () }]];", "W"}, {"[[E::A]];", "E"}, {"[[E::B(1)]];", "E"}, {"[[O::X(E::A)]];", "O"}, {"O::X([[E::A]]);", "E"},
		{"[[1 + 2]];", "i64"}, {"[[1 - 2]];", "i64"}, {"[[1 * 2]];", "i64"}, {"[[1 / 2]];", "i64"}, {"[[1 % 2]];", "i64"}, {"[[1 < 2]];", "bool"}, {"[[1 <= 2]];", "bool"}, {"[[1 > 2]];", "bool"}, {"[[1 >= 2]];", "bool"}, {"[[1 == 2]];", "bool"}, {"[[1 != 2]];", "bool"}, {"[[c == c]];", "bool"}, {"[[c != c]];", "bool"}, {"[[c && c]];", "bool"}, {"[[c || c]];", "bool"}, {"[[-v]];", "i64"}, {"[[!c]];", "bool"},
		{"[[s.a]];", "i64"}, {"[[m.b]];", "Box<i64>"}, {"[[p.l]];", "Box<S>"}, {"[[p.l.b]];", "Box<i64>"}, {"[[b.a]];", "i64"}, {"[[lend(s).a]];", "i64"}, {"[[*s]];", "S"}, {"[[*m]];", "S"}, {"[[*b]];", "S"}, {"[[*p.l.b]];", "i64"}, {"[[*give(m)]];", "S"},
		{"[[&v]];", "&i64"}, {"[[&mut v]];", "&mut i64"}, {"[[&b]];", "&Box<S>"}, {"[[&mut h]];", "&mut Box<S>"}, {"[[&*s]];", "&S"}, {"[[&mut *m]];", "&mut S"}, {"[[&p.s]];", "&S"}, {"[[&*m]];", "&S"},
		{"[[Box::new(1)]];", "Box<i64>"}, {"[[Box::new(Box::new(()))]];", "Box<Box<()>>"}, {"Box::new([[Box::new(())]]);", "Box<()>"}, {"Box::new(Box::new([[()]]));", "()"}, {"[[Box::new(b)]];", "Box<Box<S>>"},
		{"[[if c { }]]", "()"}, {"[[if c { panic() }]]", "()"}, {"[[if c { 1 } else { 2 }]];", "i64"}, {"[[if c { return; } else { 1 }]];", "i64"}, {"[[if c { 1 } else { panic() }]];", "i64"}, {"[[if c { panic() } else { return; }]];", "!"}, {"[[if c { panic() } else if c { s } else { panic() }]];", "&S"}, {"if c { 1 } else [[if c { panic() } else { 2 }]];", "i64"}, {"if c [[{ return; }]] else { 1 };", "!"}, {"[[if c { panic() } else if c { }]]", "()"},
		{"[[match v { }]];", "!"}, {"[[match v { _ => panic() }]];", "!"}, {"[[match v { 1 => panic(), 2 => c, _ => panic() }]];", "bool"}, {"[[match v { 1 => (), _ => panic() }]]", "()"}, {"[[match v { x => m }]];", "&mut S"},
		{"[[{ }]]", "()"}, {"[[{ 1 }]];", "i64"}, {"[[{ 1; }]]", "()"}, {"[[{ panic() }]];", "!"}, {"[[{ panic(); }]]", "!"}, {"[[{ return; }]]", "!"}, {"while c [[{ break; }]]", "!"}, {"while c [[{ continue; }]]", "!"}, {"[[{ return; 1; }]]", "()"}, {"[[{ return; 1 }]];", "i64"}, {"[[{ panic(); let x = 1; }]]", "()"}, {"[[{ let x = 1; }]]", "()"}, {"[[{ v = 1; }]]", "()"}, {"[[{ while c { } }]]", "()"}, {"[[{ { return; } }]];", "!"}, {"[[{ { return; }; }]]", "!"}, {"[[{ if c { return; } }]]", "()"}, {"while c [[{ if c { break; } else { continue; }; }]]", "!"}, {"while c [[{ v = 1; }]]", "()"},
		{"match v { [[1]] => 1, _ => 2 };", "i64"}, {"match &v { [[1]] => 1, _ => 2 };", "&i64"}, {"match &mut v { [[-1]] => 1, _ => 2 };", "&mut i64"}, {"match c { [[true]] => 1, _ => 2 };", "bool"}, {"match v { [[_]] => 1 };", "i64"}, {"match s { [[_]] => 1 };", "&S"}, {"match b { [[x]] => 1 };", "Box<S>"}, {"match m { [[x]] => 1 };", "&mut S"},
		{"match e { [[E::A]] => 1, _ => 2 };", "&E"}, {"match e { E::B([[x]]) => 1, _ => 2 };", "&i64"}, {"match e { E::B(x) => [[x]], _ => &v };", "&i64"}, {"match n { E::C([[x]]) => 1, _ => 2 };", "&mut S"}, {"match n { [[E::C(x)]] => 1, _ => 2 };", "&mut E"}, {"match o { O::X(E::C([[x]])) => 1, _ => 2 };", "S"}, {"match o { O::X([[E::C(x)]]) => 1, _ => 2 };", "E"}, {"match &o { O::X(E::D([[_]])) => 1, _ => 2 };", "&()"}, {"match &o { O::Y([[true]]) => 1, _ => 2 };", "&bool"}, {"match L::End { L::More([[x]]) => 1, _ => 2 };", "Box<L>"},
	} {
		source, from, to := marked(ahead + c.body + " } fn main() { }")
		x := mustOf(t, source)
		if got := x.Types[markedNode(t, x, from, to)]; got != c.want {
			t.Errorf("%s: %s", c.body, got)
		}
	}
}

// 16.1: all of a typed tree, by hand.
func TestWholeTypedTree(t *testing.T) {
	source := "fn f(a: i64, mut b: &bool) -> i64 { let x = a; { let mut x: bool = *b; x; } match x { 1 => x, y => { let a = y; a } } } struct S { a: i64 } fn main() { let t = true; f(1, &t); } fn g() -> &bool { panic() }"
	x := mustOf(t, source)
	if !tree.Same(x.Tree, treeOf(t, source)) || len(x.Types) != len(x.Tree.Nodes) || len(x.Vars) != len(x.Tree.Nodes) {
		t.Fatal("the tree", len(x.Types), len(x.Vars))
	}
	it, _ := items.Of(x.Tree)
	if !items.Same(x.Items, it) {
		t.Error("the items", x.Items)
	}
	locals := [][]api.Local{
		{{Name: "a", Type: "i64"}, {Name: "b", Type: "&bool", Mut: true}, {Name: "x", Type: "i64"}, {Name: "x", Type: "bool", Mut: true}, {Name: "y", Type: "i64"}, {Name: "a", Type: "i64"}},
		{{Name: "t", Type: "bool"}}, {},
	}
	if !slices.EqualFunc(x.Locals, locals, func(a, b []api.Local) bool { return slices.Equal(a, b) }) {
		t.Error("the variables", x.Locals)
	}
	var named []string
	for k, n := range x.Tree.Nodes {
		isNamed := n.Kind == api.KVar || n.Kind == api.KLet || n.Kind == api.KParam || n.Kind == api.KPVar
		if isNamed {
			named = append(named, n.Name+strconv.Itoa(x.Vars[k]))
		} else if x.Vars[k] != -1 {
			t.Error("a variable of", n, x.Vars[k])
		}
		if (x.Types[k] != "") != (isExpr(n.Kind) || isPattern(n.Kind)) {
			t.Error("the type of", n, x.Types[k])
		}
	}
	if got := strings.Join(named, " "); got != "a0 b1 a0 x2 b1 x3 x3 x2 x2 y4 y4 a5 a5 t0 t0" {
		t.Error("the variables' numbers", got)
	}
}

// 16.1: which variable a name is.
func TestWhichVariable(t *testing.T) {
	for _, c := range []struct {
		source string
		want   int
	}{
		{"fn main() { let x = 1; let x = 2; [[x]]; }", 1}, {"fn main() { let x = 1; { let x = 2; } [[x]]; }", 0}, {"fn main() { let x = 1; { let x = 2; [[x]]; } }", 1}, {"fn main() { let x = 1; { [[x]]; let x = 2; } }", 0}, {"fn main() { let x = 1; let x = [[x]]; }", 0},
		{"fn main() { let x = 1; match 2 { x => [[x]] }; }", 1}, {"fn main() { let x = 1; match 2 { x => x, _ => [[x]] }; }", 0}, {"fn main() { let x = 1; match 2 { x => { let x = 3; x }, x => [[x]] }; }", 3}, {"fn main() { let x = 1; match [[x]] { x => x }; }", 0},
		{"fn f(x: i64, y: i64) { let x = [[x]]; } fn main() { }", 0}, {"fn f(x: i64, y: i64) { let x = 1; [[y]]; } fn main() { }", 1}, {"fn f(x: i64) { let x = 1; [[x]]; } fn main() { }", 1}, {"fn g(a: i64, b: i64) { } fn f(x: i64) { [[x]]; } fn main() { }", 0},
		{"fn main() { let x = true; while x { let x = 1; } [[x]]; }", 0}, {"fn main() { let x = { let x = 1; x }; [[x]]; }", 1}, {"fn main() { let x = 1; if true { let x = 2; } else { [[x]]; } }", 0}, {"enum E { A, B(i64) } fn main() { let x = 1; match E::A { E::B(x) => [[x]], _ => x }; }", 1},
	} {
		source, from, to := marked(c.source)
		x := mustOf(t, source)
		if got := x.Vars[markedNode(t, x, from, to)]; got != c.want {
			t.Errorf("%s: %d", c.source, got)
		}
	}
}

// 16.2: places, and whether they may be changed.
func TestPlaceAndMutable(t *testing.T) {
	for _, c := range []struct {
		body       string
		place, mut bool
	}{
		{"[[v]];", true, true}, {"[[k]];", true, false}, {"[[s]];", true, false}, {"[[m]];", true, false}, {"[[w]];", true, true}, {"[[h]];", true, true},
		{"[[w.s.a]];", true, true}, {"[[w.l.a]];", true, true}, {"[[*w.l]];", true, true}, {"[[p.s.a]];", true, false}, {"[[p.l.a]];", true, false}, {"[[*p.l]];", true, false}, {"[[*h]];", true, true}, {"[[*b]];", true, false}, {"[[h.b]];", true, true}, {"[[b.b]];", true, false}, {"[[*h.b]];", true, true}, {"[[*b.b]];", true, false},
		{"[[*s]];", true, false}, {"[[s.a]];", true, false}, {"[[*s.b]];", true, false}, {"[[*m]];", true, true}, {"[[m.a]];", true, true}, {"[[*m.b]];", true, true}, {"[[lend(s).a]];", true, false}, {"[[*give(m)]];", true, true}, {"[[give(m).b]];", true, true}, {"[[*give(m).b]];", true, true},
		{"[[*&w]];", true, false}, {"[[*&mut w]];", true, true}, {"[[(&mut w).q]];", true, true}, {"[[(&w).q]];", true, false}, {"[[**&h]];", true, false}, {"[[**&mut h]];", true, true}, {"[[(*&h).a]];", true, false}, {"[[(&mut h).a]];", true, true}, {"[[({ m }).a]];", true, true}, {"[[({ s }).a]];", true, false},
		{"[[1]];", false, false}, {"[[true]];", false, false}, {"[[()]];", false, false}, {"[[f(1)]];", false, false}, {"[[some()]];", false, false}, {"[[N { }]];", false, false}, {"[[E::A]];", false, false}, {"[[1 + 2]];", false, false}, {"[[-v]];", false, false}, {"[[!c]];", false, false}, {"[[&mut v]];", false, false}, {"[[Box::new(v)]];", false, false}, {"[[if c { v } else { v }]];", false, false}, {"[[match v { _ => v }]];", false, false}, {"[[{ v }]];", false, false}, {"[[give(m)]];", false, false}, {"[[panic()]];", false, false},
	} {
		source, from, to := marked(ahead + c.body + " } fn main() { }")
		x := mustOf(t, source)
		n := markedNode(t, x, from, to)
		if is, e := Place(x, n); is != c.place || e != api.OK {
			t.Errorf("Place of %s: %v, %v", c.body, is, e)
		}
		if may, e := Mutable(x, n); may != c.mut || e != api.OK {
			t.Errorf("Mutable of %s: %v, %v", c.body, may, e)
		}
	}
}

// nodesOf holds Place, Mutable and Function of each node of a right typed tree, and of none, to the models.
func nodesOf(t *testing.T, x api.Typed) {
	t.Helper()
	for n, node := range x.Tree.Nodes {
		want := api.OK
		if !(node.Kind == api.KBlock || node.Kind >= api.KNum && node.Kind <= api.KMatch && node.Kind != api.KInit) {
			want = api.ErrArg
		}
		is, e := Place(x, n)
		if e != want || is != (want == api.OK && place(node)) {
			t.Fatalf("Place of %v: %v, %v", node, is, e)
		}
		may, e := Mutable(x, n)
		if e != want || may != (want == api.OK && modelMutable(x, n)) {
			t.Fatalf("Mutable of %v: %v, %v", node, may, e)
		}
		if f, e := Function(x, n); e != api.OK || f != modelFunction(x, n) {
			t.Fatalf("Function of %v: %d, %v", node, f, e)
		}
	}
	for _, n := range []int{-1, len(x.Tree.Nodes), math.MinInt, math.MaxInt} {
		wantNode(t, x, n, api.ErrNone)
	}
}

// wantNode holds Place, Mutable and Function to one error, with zeros beside it.
func wantNode(t *testing.T, x api.Typed, n int, want api.Errno) {
	t.Helper()
	if is, e := Place(x, n); is || e != want {
		t.Errorf("Place: %v, %v", is, e)
	}
	if may, e := Mutable(x, n); may || e != want {
		t.Errorf("Mutable: %v, %v", may, e)
	}
	if f, e := Function(x, n); f != 0 || e != want {
		t.Errorf("Function: %v, %v", f, e)
	}
}

// 16.2: each node of typed trees, also of those whose nodes stand in other orders.
func TestNodes(t *testing.T) {
	nodesOf(t, mustOf(t, "enum E { A, B(S) } fn f(x: &S, mut y: E) -> i64 { let mut z: i64 = x.a; z = 1; while z < 2 { match y { E::B(p) => { print(p.a); }, _ => { break; } } } if true { S { a: z }; } -z } struct S { a: i64 } fn main() { let b = Box::new(1); *b; return; }"))
	r := rand.New(rand.NewSource(2))
	for range 12 {
		m := &maker{r: r}
		x, _ := parse.Parse(m.source(2))
		typed, d := Of(sourcetest.Shuffled(r.Intn, x))
		if d.Code != api.OK {
			t.Fatal(d)
		}
		nodesOf(t, typed)
	}
}

// 16.2: the function that each part of a source stands in.
func TestFunction(t *testing.T) {
	for source, want := range map[string]int{
		"fn f() { [[1]]; } fn main() { }": 0, "fn f() { } fn main() { [[1]]; }": 1, "struct S { a: i64 } fn f() { } enum E { A } fn main() { if true { [[1]]; } }": 1, "fn main() { } fn f(x: i64) -> i64 { match x { [[_]] => 1 } }": 1,
	} {
		plain, from, to := marked(source)
		x := mustOf(t, plain)
		if f, e := Function(x, markedNode(t, x, from, to)); f != want || e != api.OK {
			t.Errorf("%s: %d, %v", source, f, e)
		}
	}
	x := mustOf(t, "struct S { a: Box<i64> } fn f(p: &mut bool) -> bool { true } enum E { A(S) } fn main() { }")
	want := map[int]int{api.KStruct: -1, api.KField: -1, api.KTyBox: -1, api.KTyInt: -1, api.KEnum: -1, api.KVariant: -1, api.KTyName: -1, api.KCrate: -1, api.KParam: 0, api.KTyMut: 0, api.KTyBool: 0, api.KTruth: 0, api.KTyUnit: 1}
	for n, node := range x.Tree.Nodes {
		w, there := want[node.Kind]
		if node.Kind == api.KFn {
			w, there = map[string]int{"f": 0, "main": 1}[node.Name], true
		}
		if f, e := Function(x, n); there && f != w || e != api.OK {
			t.Errorf("%v: %d, %v", node, f, e)
		}
	}
}

// 16.3: Follow, of any text.
func TestFollow(t *testing.T) {
	for s, want := range map[string]string{
		"S": "S", "&S": "S", "&mut S": "S", "Box<S>": "S", "&Box<S>": "S", "&mut Box<Box<S>>": "S", "i64": "i64", "()": "()", "!": "!", "": "", "&": "", "&&&": "", "&mut ": "", "&mut": "mut", "&mut &mut S": "S", "& S": " S", "Box<>": "", "Box<": "Box<", "Box<S": "Box<S", "Box<S> ": "Box<S> ", "Box<&S>": "S", "Box<Box<S>": "Box<S", "Box<&Box<&mut S>>": "S", "Box<S>>": "S>", "&Box<S": "Box<S", "&!": "!", "S>": "S>", "Box<> >": "> ", "box<S>": "box<S>", " &S": " &S", "\xff": "\xff", "&\x00": "\x00",
	} {
		if got := Follow(s); got != want {
			t.Errorf("Follow of %q: %q", s, got)
		}
	}
	const deep = 60000
	if got := Follow(strings.Repeat("&", deep) + strings.Repeat("Box<", deep) + "S" + strings.Repeat(">", deep)); got != "S" {
		t.Error("Follow of a deep one", len(got))
	}
}

// 16.1, 16.4: what Of tells is right, and each type in it is one; a change of any part is told by Check, and ahead of all else.
func TestCheckOfParts(t *testing.T) {
	source := ahead + "let x: i64 = match e { E::B(y) => *y, _ => { v = 1; 2 } }; while c { break; } S { a: 1, b: Box::new(x) }; } fn main() { }"
	good := mustOf(t, source)
	if e := Check(good); e != api.OK {
		t.Fatal(e)
	}
	for _, s := range good.Types {
		if s != "" && s != "!" && !types.Right(good.Items, s) {
			t.Error("a type", s)
		}
	}
	changed := 0
	wrong := func(x api.Typed) {
		t.Helper()
		changed++
		if e := Check(x); e != api.ErrTyped {
			t.Errorf("change %d: %v", changed, e)
		}
		if changed%50 == 1 {
			for _, n := range []int{0, -1, len(x.Tree.Nodes), math.MaxInt} {
				wantNode(t, x, n, api.ErrTyped)
			}
		}
	}
	fresh := func() api.Typed { return mustOf(t, source) }
	for k := range good.Types {
		for _, s := range []string{"", "i64", "&i64", "!", good.Types[k] + " "} {
			if x := fresh(); s != x.Types[k] {
				x.Types[k] = s
				wrong(x)
			}
		}
		x := fresh()
		x.Vars[k]++
		wrong(x)
	}
	for f, l := range good.Locals {
		for k := range l {
			for _, change := range []func(v *api.Local){func(v *api.Local) { v.Name += "x" }, func(v *api.Local) { v.Type = "()" }, func(v *api.Local) { v.Mut = !v.Mut }} {
				x := fresh()
				change(&x.Locals[f][k])
				wrong(x)
			}
		}
		x := fresh()
		x.Locals[f] = append(x.Locals[f], api.Local{Name: "q", Type: "i64"})
		wrong(x)
	}
	for _, change := range []func(x *api.Typed){
		func(x *api.Typed) { *x = api.Typed{} }, func(x *api.Typed) { x.Tree = api.Tree{} }, func(x *api.Typed) { x.Items = api.Items{} }, func(x *api.Typed) { x.Types = nil }, func(x *api.Typed) { x.Vars = nil }, func(x *api.Typed) { x.Locals = nil },
		func(x *api.Typed) { x.Types = append(x.Types, "") }, func(x *api.Typed) { x.Types = x.Types[1:] }, func(x *api.Typed) { x.Vars = append(x.Vars, -1) }, func(x *api.Typed) { x.Vars = x.Vars[:3] }, func(x *api.Typed) { x.Locals = append(x.Locals, nil) }, func(x *api.Typed) { x.Locals = x.Locals[1:] },
		func(x *api.Typed) { x.Items.Structs[0].Name = "Q" }, func(x *api.Typed) { x.Items.Fns[0].Node++ }, func(x *api.Typed) { x.Items.Enums = x.Items.Enums[1:] }, func(x *api.Typed) { x.Items.Fns[1].Muts[0] = true },
		func(x *api.Typed) { x.Tree.Nodes[0].Kind = 0 }, func(x *api.Typed) { x.Tree.Nodes[0].Kind = api.KTyBool }, func(x *api.Typed) { x.Tree.Nodes = x.Tree.Nodes[1:] }, func(x *api.Typed) { x.Tree.Nodes[0].From = -1 }, func(x *api.Typed) { x.Tree.Nodes = append(x.Tree.Nodes, api.Node{Kind: api.KCrate}) },
	} {
		x := fresh()
		change(&x)
		wrong(x)
	}
	x := fresh()
	for k := range x.Tree.Nodes { // places in a source say nothing
		x.Tree.Nodes[k].From, x.Tree.Nodes[k].To = 3, 4
	}
	if e := Check(x); e != api.OK {
		t.Error("other places", e)
	}
	for k, l := range x.Locals {
		if len(l) == 0 {
			x.Locals[k] = []api.Local{}
		}
	}
	for k, n := range x.Tree.Nodes {
		if len(n.Kids) == 0 {
			x.Tree.Nodes[k].Kids = []int{}
		}
	}
	if e := Check(x); e != api.OK {
		t.Error("empty lists", e)
	}
}

// 16.1: a typed tree whose tree has a fault is not right, whatever it says besides.
func TestCheckOfFaults(t *testing.T) {
	for _, source := range []string{"fn main() { y; }", "fn f() { }", "fn main() { 1 + true; }", "struct S { s: S } fn main() { }"} {
		x := treeOf(t, source)
		it, _ := items.Of(x)
		for _, typed := range []api.Typed{{Tree: x}, {Tree: x, Items: it, Types: make([]string, len(x.Nodes)), Vars: make([]int, len(x.Nodes)), Locals: make([][]api.Local, 1)}} {
			if e := Check(typed); e != api.ErrTyped {
				t.Error(source, e)
			}
			wantNode(t, typed, 0, api.ErrTyped)
		}
	}
}

// 16.1: Same, of typed trees that differ in one field alone; of any.
func TestSame(t *testing.T) {
	source := ahead + "} fn main() { }"
	a := mustOf(t, source)
	if !Same(a, mustOf(t, source)) || !Same(a, a) || !Same(api.Typed{}, api.Typed{}) {
		t.Error("the same")
	}
	empty := api.Typed{Tree: api.Tree{Nodes: []api.Node{}}, Items: api.Items{Structs: []api.Struct{}, Enums: []api.Enum{}, Fns: []api.Fn{}}, Types: []string{}, Vars: []int{}, Locals: [][]api.Local{}}
	if !Same(empty, api.Typed{}) || !Same(api.Typed{}, empty) || !Same(api.Typed{Locals: [][]api.Local{{}}}, api.Typed{Locals: [][]api.Local{nil}}) {
		t.Error("nil and empty")
	}
	last := len(a.Tree.Nodes) - 1
	for k, change := range []func(x *api.Typed){
		func(x *api.Typed) { x.Tree.Nodes[last].Kind++ }, func(x *api.Typed) { x.Tree.Nodes[1].Name = "z" }, func(x *api.Typed) { x.Tree.Nodes[1].Num++ }, func(x *api.Typed) { x.Tree.Nodes[last].Kids[0]++ }, func(x *api.Typed) { x.Tree.Nodes = x.Tree.Nodes[:last] },
		func(x *api.Typed) { x.Items.Structs[0].Name = "z" }, func(x *api.Typed) { x.Items.Structs[0].Fields[0].Type = "z" }, func(x *api.Typed) { x.Items.Enums[0].Variants[0].Name = "z" }, func(x *api.Typed) { x.Items.Enums[0].Name = "z" }, func(x *api.Typed) { x.Items.Fns[0].Name = "z" }, func(x *api.Typed) { x.Items.Fns[0].Params[0].Name = "z" }, func(x *api.Typed) { x.Items.Fns[0].Muts[0] = true }, func(x *api.Typed) { x.Items.Fns[0].Ret = "z" }, func(x *api.Typed) { x.Items.Fns[0].Node++ },
		func(x *api.Typed) { x.Types[0] = "z" }, func(x *api.Typed) { x.Types[last] = "z" }, func(x *api.Typed) { x.Types = append(x.Types, "") }, func(x *api.Typed) { x.Vars[0] = 0 }, func(x *api.Typed) { x.Vars[last] = 9 }, func(x *api.Typed) { x.Vars = x.Vars[:last] },
		func(x *api.Typed) { x.Locals[0][0].Name = "z" }, func(x *api.Typed) { x.Locals[0][0].Type = "z" }, func(x *api.Typed) { x.Locals[0][0].Mut = true }, func(x *api.Typed) { x.Locals[0] = nil }, func(x *api.Typed) { x.Locals = x.Locals[1:] }, func(x *api.Typed) { x.Locals = append(x.Locals, nil) },
	} {
		b := mustOf(t, source)
		change(&b)
		if Same(a, b) || Same(b, a) {
			t.Error("change", k)
		}
	}
	b := mustOf(t, "  "+source)
	if !Same(a, b) || a.Tree.Nodes[0].From == b.Tree.Nodes[0].From {
		t.Error("other places")
	}
}
