package check

import (
	"math/rand"
	"slices"
	"strconv"
	"testing"

	"patina/api"
	"patina/items"
	"patina/parse"
	"patina/sourcetest"
	"patina/tree"
	"patina/types"
)

// madeTyped is the tree of a source of a maker, and its typed tree.
func madeTyped(t *testing.T, m *maker, measure int) (api.Tree, api.Typed) {
	t.Helper()
	x, d := parse.Parse(m.source(measure))
	if d.Code != api.OK {
		t.Fatal(d)
	}
	if m.r.Intn(2) == 0 {
		x = sourcetest.Shuffled(m.r.Intn, x)
	}
	typed, d := Of(x)
	if d.Code != api.OK {
		t.Fatal(d)
	}
	return x, typed
}

// 16.4: what Of tells is right, and each type in it is a type of the items, or !.
func TestTypesAreRight(t *testing.T) {
	m := &maker{r: rand.New(rand.NewSource(4))}
	for range 60 {
		_, x := madeTyped(t, m, 3)
		if e := Check(x); e != api.OK {
			t.Fatal(e)
		}
		seen := slices.Clone(x.Types)
		for _, l := range x.Locals {
			for _, v := range l {
				if v.Type == "!" || v.Type == "" {
					t.Fatal(v)
				}
				seen = append(seen, v.Type)
			}
		}
		slices.Sort(seen)
		for _, s := range slices.Compact(seen) {
			if s != "" && s != "!" && !types.Right(x.Items, s) {
				t.Fatal(s)
			}
		}
	}
}

// below are the nodes below one, with it, in their order.
func below(x api.Tree, n int) []int {
	inside := make([]bool, len(x.Nodes))
	inside[n] = true
	var l []int
	for k := n; k >= 0; k-- {
		if inside[k] {
			l = append(l, k)
			for _, kid := range x.Nodes[k].Kids {
				inside[kid] = true
			}
		}
	}
	slices.Reverse(l)
	return l
}

// names are the variables from outside that an expression names, each once; false: it leaves the function or a loop, or names too many.
func names(x api.Typed, n int) ([]int, bool) {
	var l, own []int
	nodes := below(x.Tree, n)
	for _, k := range nodes {
		switch x.Tree.Nodes[k].Kind {
		case api.KReturn, api.KBreak, api.KNext:
			return nil, false
		case api.KLet, api.KPVar:
			own = append(own, x.Vars[k])
		}
	}
	for _, k := range nodes {
		if x.Tree.Nodes[k].Kind == api.KVar && !slices.Contains(own, x.Vars[k]) && !slices.Contains(l, x.Vars[k]) {
			l = append(l, x.Vars[k])
		}
	}
	return l, len(l) <= api.MaxParams
}

// putType puts a type's nodes at the end of a list.
func putType(nodes []api.Node, s string) []api.Node {
	x, _ := parse.Type(s)
	at := len(nodes)
	for _, n := range x.Nodes {
		for k := range n.Kids {
			n.Kids[k] += at
		}
		nodes = append(nodes, n)
	}
	return nodes
}

// alone is a tree of one more function, whose parameters are the variables, and whose body is the expression and nothing else; and where that stands there.
func alone(x api.Typed, n int, vars []api.Local) (api.Tree, int) {
	last := len(x.Tree.Nodes) - 1
	crate := x.Tree.Nodes[last]
	nodes := slices.Clone(x.Tree.Nodes[:last])
	fn := api.Node{Kind: api.KFn, Name: "alone", Num: int64(len(vars))}
	for _, v := range vars {
		nodes = putType(nodes, v.Type)
		p := api.Node{Kind: api.KParam, Name: v.Name, Kids: []int{len(nodes) - 1}}
		if v.Mut {
			p.Num = 1
		}
		nodes = append(nodes, p)
		fn.Kids = append(fn.Kids, len(nodes)-1)
	}
	nodes = append(nodes, api.Node{Kind: api.KTyUnit})
	fn.Kids = append(fn.Kids, len(nodes)-1)
	places := map[int]int{}
	for _, k := range below(x.Tree, n) {
		node := x.Tree.Nodes[k]
		node.Kids = nil
		for _, kid := range x.Tree.Nodes[k].Kids {
			node.Kids = append(node.Kids, places[kid])
		}
		places[k] = len(nodes)
		nodes = append(nodes, node)
	}
	at := len(nodes) - 1
	nodes = append(nodes, api.Node{Kind: api.KDo, Kids: []int{at}}, api.Node{Kind: api.KBlock, Kids: []int{at + 1}})
	fn.Kids = append(fn.Kids, at+2)
	nodes = append(nodes, fn)
	crate.Kids = append(slices.Clone(crate.Kids), at+3)
	return api.Tree{Nodes: append(nodes, crate)}, at
}

// 16.4: an expression has the same types in a function of its own, to which the variables that it names are handed.
func TestExpressionsAlone(t *testing.T) {
	m := &maker{r: rand.New(rand.NewSource(5))}
	done := 0
	for range 150 {
		_, x := madeTyped(t, m, 3)
		n := m.r.Intn(len(x.Tree.Nodes))
		l, fits := names(x, n)
		if !isExpr(x.Tree.Nodes[n].Kind) || !fits {
			continue
		}
		var vars []api.Local
		twice := map[string]bool{}
		for _, v := range l {
			local := x.Locals[modelFunction(x, n)][v]
			fits = fits && !twice[local.Name]
			twice[local.Name] = true
			vars = append(vars, local)
		}
		if !fits {
			continue
		}
		other, at := alone(x, n, vars)
		y, d := Of(other)
		if d.Code != api.OK {
			t.Fatal(d)
		}
		was, is := below(x.Tree, n), below(other, at)
		for k := range was {
			if x.Types[was[k]] != y.Types[is[k]] {
				t.Fatalf("%v: %s and %s", x.Tree.Nodes[was[k]], x.Types[was[k]], y.Types[is[k]])
			}
		}
		done++
	}
	if done < 30 {
		t.Error("few were done", done)
	}
}

// 16.5: other bodies of all functions but one leave its types, its variables' numbers and its variables as they are.
func TestOtherBodies(t *testing.T) {
	m := &maker{r: rand.New(rand.NewSource(6))}
	for range 100 {
		x, d := parse.Parse(m.source(2))
		if d.Code != api.OK {
			t.Fatal(d)
		}
		a, d := Of(x)
		if d.Code != api.OK {
			t.Fatal(d)
		}
		keep := m.r.Intn(len(a.Items.Fns))
		b, d := Of(withOtherBodies(x, a.Items.Fns[keep].Node))
		if d.Code != api.OK {
			t.Fatal(d)
		}
		was, is := below(a.Tree, a.Items.Fns[keep].Node), below(b.Tree, b.Items.Fns[keep].Node)
		if len(was) != len(is) || !slices.Equal(a.Locals[keep], b.Locals[keep]) {
			t.Fatal("the function's variables")
		}
		for k := range was {
			if a.Types[was[k]] != b.Types[is[k]] || a.Vars[was[k]] != b.Vars[is[k]] {
				t.Fatal(a.Tree.Nodes[was[k]], a.Types[was[k]], b.Types[is[k]])
			}
		}
	}
}

// withOtherBodies is a tree of which all functions but one do nothing but panic.
func withOtherBodies(x api.Tree, keep int) api.Tree {
	var out []api.Node
	var put func(k int) int
	put = func(k int) int {
		n := x.Nodes[k]
		kids := n.Kids
		n.Kids = nil
		if n.Kind == api.KFn && k != keep {
			for _, kid := range kids[:len(kids)-1] {
				n.Kids = append(n.Kids, put(kid))
			}
			out = append(out, api.Node{Kind: api.KCall, Name: "panic"})
			out = append(out, api.Node{Kind: api.KBlock, Num: 1, Kids: []int{len(out) - 1}})
			n.Kids = append(n.Kids, len(out)-1)
		} else {
			for _, kid := range kids {
				n.Kids = append(n.Kids, put(kid))
			}
		}
		out = append(out, n)
		return len(out) - 1
	}
	put(len(x.Nodes) - 1)
	return api.Tree{Nodes: out}
}

// 16.6: variables with other names, each in all its uses, change nothing but names.
func TestOtherNames(t *testing.T) {
	m := &maker{r: rand.New(rand.NewSource(7))}
	for range 100 {
		x, want := madeTyped(t, m, 3)
		y := copied(x)
		for k, v := range want.Vars {
			if v >= 0 {
				y.Nodes[k].Name = "n" + strconv.Itoa(v)
			}
		}
		got, d := Of(y)
		if d.Code != api.OK {
			t.Fatal(d)
		}
		if !slices.Equal(got.Types, want.Types) || !slices.Equal(got.Vars, want.Vars) || len(got.Locals) != len(want.Locals) {
			t.Fatal("types or variables")
		}
		for f, l := range got.Locals {
			for k, v := range l {
				was := want.Locals[f][k]
				if v.Name != "n"+strconv.Itoa(k) || v.Type != was.Type || v.Mut != was.Mut {
					t.Fatal(v, was)
				}
			}
			for k := range got.Items.Fns[f].Params {
				got.Items.Fns[f].Params[k].Name = want.Items.Fns[f].Params[k].Name
			}
		}
		if !items.Same(got.Items, want.Items) {
			t.Fatal("the items")
		}
	}
}

// spoil writes over all of a list, spare room too.
func spoil[T any](l []T, with T) {
	l = l[:cap(l)]
	for k := range l {
		l[k] = with
	}
}

// R3: an answer is new memory, and no two lists of it share any.
func TestMemory(t *testing.T) {
	source := ahead + "let x = match e { E::B(y) => *y, _ => 2 }; f(x); } fn main() { let z = 1; }"
	given := treeOf(t, source)
	for k, n := range given.Nodes { // with spare room
		given.Nodes[k].Kids = append(slices.Clone(n.Kids), 7)[:len(n.Kids)]
	}
	before := copied(given)
	a, _ := Of(given)
	want := mustOf(t, source)
	check := func(what string) {
		t.Helper()
		if !identical(want, mustOf(t, source)) {
			t.Fatal("kept", what)
		}
		for k, n := range given.Nodes {
			if !slices.Equal(n.Kids, before.Nodes[k].Kids) || n.Kids[:len(n.Kids)+1][len(n.Kids)] != 7 || n.Name != before.Nodes[k].Name || n.Kind != before.Nodes[k].Kind {
				t.Fatal("changed", what)
			}
		}
	}
	check("nothing")
	Check(a)
	Place(a, 9)
	Mutable(a, 9)
	Function(a, 9)
	if !identical(a, want) {
		t.Fatal("changed by a look")
	}
	kids := 0
	for k := range a.Tree.Nodes { // each list by itself, the others staying as they are
		l := a.Tree.Nodes[k].Kids
		was := slices.Clone(l)
		spoil(l, -9)
		if len(l) > 0 {
			kids++
		}
		copy(l, was)
		if !identical(a, want) {
			t.Fatal("Kids of", k)
		}
	}
	spoil(a.Types[len(a.Types):], "z")
	spoil(a.Vars[len(a.Vars):], -9)
	spoil(a.Locals[len(a.Locals):], nil)
	for k := range a.Locals {
		spoil(a.Locals[k][len(a.Locals[k]):], api.Local{Name: "z"})
	}
	for k := range a.Items.Fns {
		spoil(a.Items.Fns[k].Params[len(a.Items.Fns[k].Params):], api.Field{Name: "z"})
		spoil(a.Items.Fns[k].Muts[len(a.Items.Fns[k].Muts):], true)
	}
	if !identical(a, want) {
		t.Fatal("spare room")
	}
	for k := range a.Locals {
		spoil(a.Locals[k], api.Local{Name: "z"})
	}
	for k := range a.Items.Fns {
		spoil(a.Items.Fns[k].Params, api.Field{Name: "z"})
		spoil(a.Items.Fns[k].Muts, true)
	}
	spoil(a.Types, "z")
	spoil(a.Vars, -9)
	if !tree.Same(a.Tree, want.Tree) || kids == 0 {
		t.Fatal("the tree")
	}
	spoil(a.Tree.Nodes, api.Node{})
	check("an answer")
}

// 16.1: trees that are not right, ahead of all else.
func TestWrongTrees(t *testing.T) {
	good := treeOf(t, "fn main() { let x = 1 + true; y; }")
	for k, change := range []func(x *api.Tree){
		func(x *api.Tree) { *x = api.Tree{} }, func(x *api.Tree) { x.Nodes = x.Nodes[:len(x.Nodes)-1] }, func(x *api.Tree) { x.Nodes[0].Kind = 99 }, func(x *api.Tree) { x.Nodes[1].Num = -1 }, func(x *api.Tree) { x.Nodes[3].Kids = nil }, func(x *api.Tree) { x.Nodes[3].Name = "&" }, func(x *api.Tree) { x.Nodes[1].From = -1 }, func(x *api.Tree) { x.Nodes = make([]api.Node, api.MaxNodes+1) },
	} {
		x := copied(good)
		change(&x)
		typed, d := Of(x)
		if d != (api.Diag{Code: api.ErrTree}) || !Same(typed, api.Typed{}) {
			t.Error(k, d)
		}
		if e := Check(api.Typed{Tree: x}); e != api.ErrTyped {
			t.Error(k, e)
		}
	}
}

// 16.1: each error of items is told as they tell it, ahead of what bodies have.
func TestItemsFirst(t *testing.T) {
	for _, items := range []struct {
		source string
		code   api.Errno
	}{
		{"[[struct S { }]]", api.ErrDup}, {"fn f(a: i64, [[a: i64]]) { }", api.ErrDup}, {"[[fn print() { }]]", api.ErrDup}, {"struct T { a: [[U]] }", api.ErrUnknown}, {"fn f() -> [[U]] { }", api.ErrUnknown}, {"enum E { A([[&i64]]) }", api.ErrInner}, {"fn f(x: Box<[[&i64]]>) { }", api.ErrInner}, {"[[struct T { t: T }]]", api.ErrEndless}, {"[[enum E { }]]", api.ErrEndless}, {"[[fn f(a: i64, b: i64, c: i64, d: i64, e: i64, f: i64, g: i64) { }]]", api.ErrLong},
	} {
		wantFault(t, "struct S { } fn main() { y; 1 + true; } "+items.source, items.code)
	}
	wantFault(t, "[[fn main() -> i64 { y; 1 + true }]]", api.ErrMain)
	wantFault(t, "[[]]fn f() { y; }", api.ErrMain)
}

// anyTree is a tree of any nodes, most often not right.
func anyTree(r *rand.Rand) api.Tree {
	var x api.Tree
	names := []string{"", "x", "S", "main", "E::A", "+", "==", "panic", "f"}
	for k := range r.Intn(30) {
		n := api.Node{Kind: r.Intn(56), Name: names[r.Intn(len(names))], Num: int64(r.Intn(4) - 1), From: r.Intn(5) - 1, To: r.Intn(9)}
		for range r.Intn(4) {
			n.Kids = append(n.Kids, r.Intn(k+2)-1)
		}
		x.Nodes = append(x.Nodes, n)
	}
	return x
}

// P1: of any trees and typed trees each call ends, and tells what the models tell.
func TestAnyThing(t *testing.T) {
	r := rand.New(rand.NewSource(8))
	for range 3000 {
		x := anyTree(r)
		typed, d := Of(x)
		if want, wd := modelOf(x); d != wd || !Same(typed, want) {
			t.Fatal(d, wd)
		}
		any := api.Typed{Tree: x, Types: make([]string, r.Intn(9)), Vars: make([]int, r.Intn(9)), Locals: make([][]api.Local, r.Intn(3)), Items: api.Items{Fns: make([]api.Fn, r.Intn(3))}}
		if d.Code != api.OK {
			if e := Check(any); e != api.ErrTyped {
				t.Fatal(e)
			}
			wantNode(t, any, r.Intn(20)-5, api.ErrTyped)
		}
		if !Same(any, any) || Same(any, api.Typed{}) != (len(x.Nodes)+len(any.Types)+len(any.Vars)+len(any.Locals)+len(any.Items.Fns) == 0) {
			t.Fatal("Same")
		}
	}
}

// P1, 16.1: trees of which a node was changed, so that other things do not fit: each tells what the model tells.
func TestChangedTrees(t *testing.T) {
	m := &maker{r: rand.New(rand.NewSource(9))}
	right := 0
	for range 150 {
		x, _ := madeTyped(t, m, 2)
		for range 40 {
			y := copied(x)
			for range 1 + m.r.Intn(2) {
				changeNode(m, y)
			}
			if tree.Check(y) != api.OK {
				continue
			}
			right++
			want, wd := modelOf(y)
			if got, d := Of(y); d != wd || !identical(got, want) {
				s, _ := tree.Print(y)
				t.Fatalf("%v, not %v: %s", d, wd, s)
			}
		}
	}
	if right < 500 {
		t.Error("few were right", right)
	}
}

func changeNode(m *maker, x api.Tree) {
	n := &x.Nodes[m.r.Intn(len(x.Nodes))]
	switch m.r.Intn(5) {
	case 0:
		n.Kind = m.r.Intn(56)
	case 1:
		n.Num = 1 - n.Num
	case 2:
		n.Name = pick(m, "a", "b", "x", "y", "s", "p", "f", "g", "S", "E", "print", "panic", "E::A", "E::B", "O::Z", "L::End", "+", "<", "==", "&&")
	case 3:
		if k := len(n.Kids); k > 1 {
			n.Kids[0], n.Kids[k-1] = n.Kids[k-1], n.Kids[0]
		}
	case 4:
		n.Kind = pick(m, api.KNum, api.KTruth, api.KNil, api.KNeg, api.KNot, api.KStar, api.KNew, api.KBreak, api.KNext, api.KReturn, api.KTyRef, api.KTyMut, api.KTyBox, api.KPAny, api.KPNum)
		n.Name, n.Num = "", 0
	}
}

// 16.1, 16.2, P1: trees of MaxNodes nodes, wide and deep, end soon.
func TestGreatTrees(t *testing.T) {
	var nodes []api.Node
	put := func(kind int, name string, kids ...int) int {
		nodes = append(nodes, api.Node{Kind: kind, Name: name, Kids: kids})
		return len(nodes) - 1
	}
	unit := put(api.KTyUnit, "")
	var parts []int
	last := -1
	for k := 0; len(nodes) < api.MaxNodes-800; k++ { // Boxes about Boxes, by way of variables
		x := put(api.KNum, "")
		if last >= 0 {
			nodes[x] = api.Node{Kind: api.KVar, Name: "x" + strconv.Itoa(last)}
		}
		for range 4*api.MaxDeep - 5 {
			x = put(api.KNew, "", x)
		}
		parts = append(parts, put(api.KLet, "x"+strconv.Itoa(k), x))
		last = k
	}
	for len(nodes) < api.MaxNodes-400 {
		parts = append(parts, put(api.KDo, "", put(api.KStar, "", put(api.KVar, "x"+strconv.Itoa(last)))))
	}
	body := put(api.KBlock, "", parts...)
	put(api.KCrate, "", put(api.KFn, "main", unit, body))
	x, d := Of(api.Tree{Nodes: nodes})
	if d.Code != api.OK || Follow(x.Types[len(nodes)-5]) != "i64" {
		t.Fatal(d)
	}
	if e := Check(x); e != api.OK {
		t.Fatal(e)
	}
	if may, e := Mutable(x, len(nodes)-5); may || e != api.OK {
		t.Fatal(may, e)
	}
}
