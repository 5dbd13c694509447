package tree

import (
	"math"
	"math/rand"
	"reflect"
	"slices"
	"strings"
	"testing"

	"patina/api"
)

// wantAnswers holds what all calls tell of a tree to each other: ErrTree and zeros of one that is not right, ahead of all else.
func wantAnswers(t *testing.T, x api.Tree, right bool) {
	t.Helper()
	want := api.OK
	if !right {
		want = api.ErrTree
	}
	text, e := Print(x)
	if e != want || !right && text != "" {
		t.Fatalf("Print: %q, %v of %v", text, e, x)
	}
	if l, e := Parents(x); e != want || right != (len(l) > 0) {
		t.Fatalf("Parents: %v, %v of %v", l, e, x)
	}
	if d, e := Depth(x); e != want || !right && d != 0 {
		t.Fatalf("Depth: %d, %v of %v", d, e, x)
	}
	for _, n := range []int{-1, len(x.Nodes), math.MinInt, math.MaxInt, 0, len(x.Nodes) - 1} {
		node := want
		if right && (n < 0 || n >= len(x.Nodes)) {
			node = api.ErrNone
		}
		y, e := Sub(x, n)
		if e != node || (e == api.OK) != (len(y.Nodes) > 0) {
			t.Fatalf("Sub of %d: %v, %v of %v", n, y, e, x)
		}
		if node == api.OK && rows[x.Nodes[n].Kind].letter != "t" {
			node = api.ErrArg
		}
		if s, e := Type(x, n); e != node || (e == api.OK) != (s != "") {
			t.Fatalf("Type of %d: %q, %v of %v", n, s, e, x)
		}
	}
	if !Same(x, x) {
		t.Fatalf("Same of itself: %v", x)
	}
}

// modelSub is the part below a node, node by node from above.
func modelSub(x api.Tree, n int) api.Tree {
	var below []int
	var down func(k int)
	down = func(k int) {
		below = append(below, k)
		for _, kid := range x.Nodes[k].Kids {
			down(kid)
		}
	}
	down(n)
	slices.Sort(below)
	var out api.Tree
	for _, k := range below {
		y := x.Nodes[k]
		y.Kids = nil
		for _, kid := range x.Nodes[k].Kids {
			y.Kids = append(y.Kids, slices.Index(below, kid))
		}
		out.Nodes = append(out.Nodes, y)
	}
	return out
}

// modelType is a type's text made from what it is printed as.
func modelType(printed string) string {
	s := strings.ReplaceAll(printed, " ", "")
	return strings.ReplaceAll(s, "&mut", "&mut ")
}

// identical tells whether two trees are the same, places too.
func identical(a, b api.Tree) bool {
	return Same(a, b) && slices.EqualFunc(a.Nodes, b.Nodes, func(x, y api.Node) bool { return x.From == y.From && x.To == y.To })
}

// 13.2, 13.3: parts of trees that were made, in the order of the source and in others.
func TestParts(t *testing.T) {
	r := rand.New(rand.NewSource(7))
	m := &maker{r: r}
	for range 300 {
		x, _ := m.tree(r.Intn(3), 1+r.Intn(3))
		if r.Intn(2) == 0 {
			x, _ = shuffled(r, x)
		}
		last := len(x.Nodes) - 1
		parents, e := Parents(x)
		if e != api.OK || len(parents) != len(x.Nodes) || parents[last] != -1 {
			t.Fatal(parents, e)
		}
		deepest := 0
		for k := range x.Nodes {
			if k < last && (parents[k] <= k || !slices.Contains(x.Nodes[parents[k]].Kids, k)) {
				t.Fatalf("node %d has the parent %d", k, parents[k])
			}
			above := 0
			for n := k; n != last; n = parents[n] {
				above++
			}
			deepest = max(deepest, above)
			y, e := Sub(x, k)
			if e != api.OK || !identical(y, modelSub(x, k)) {
				t.Fatalf("Sub of %d: %v, %v of %v", k, y, e, x)
			}
		}
		if d, e := Depth(x); d != deepest || e != api.OK {
			t.Fatalf("Depth: %d, %v, not %d", d, e, deepest)
		}
		if y, e := Sub(x, last); e != api.OK || !identical(x, y) {
			t.Fatal("Sub of the last one", e)
		}
		wantAnswers(t, x, true)
	}
}

// 13.2: each kind of type, and all other kinds.
func TestTypes(t *testing.T) {
	for _, c := range []struct {
		want  string
		kinds []int // from the innermost on
	}{
		{"i64", []int{api.KTyInt}}, {"bool", []int{api.KTyBool}}, {"()", []int{api.KTyUnit}}, {"n", []int{api.KTyName}},
		{"&i64", []int{api.KTyInt, api.KTyRef}}, {"&mut i64", []int{api.KTyInt, api.KTyMut}}, {"Box<i64>", []int{api.KTyInt, api.KTyBox}},
		{"&&mut n", []int{api.KTyName, api.KTyMut, api.KTyRef}}, {"&mut &n", []int{api.KTyName, api.KTyRef, api.KTyMut}},
		{"Box<Box<()>>", []int{api.KTyUnit, api.KTyBox, api.KTyBox}}, {"&mut Box<&Box<&mut bool>>", []int{api.KTyBool, api.KTyMut, api.KTyBox, api.KTyRef, api.KTyBox, api.KTyMut}},
	} {
		var b bench
		k := -1
		for i, kind := range c.kinds {
			if i == 0 {
				k = b.least(kind)
			} else {
				k = b.put(kind, "", 0, k)
			}
		}
		if s, e := Type(b.above(api.KTyInt, k), k); s != c.want || e != api.OK {
			t.Errorf("%q, %v, not %q", s, e, c.want)
		}
	}
	for _, kind := range allKinds() {
		var b bench
		k := b.least(kind)
		x := b.above(kind, k)
		s, e := Type(x, k)
		if rows[kind].letter == "t" {
			if e != api.OK || s == "" {
				t.Errorf("kind %d: %q, %v", kind, s, e)
			}
		} else if e != api.ErrArg || s != "" {
			t.Errorf("kind %d: %q, %v", kind, s, e)
		}
		for _, n := range []int{-1, len(x.Nodes), math.MinInt, math.MaxInt} {
			if s, e := Type(x, n); s != "" || e != api.ErrNone {
				t.Errorf("kind %d: %q, %v of no node", kind, s, e)
			}
			if y, e := Sub(x, n); len(y.Nodes) != 0 || e != api.ErrNone {
				t.Errorf("kind %d: %v, %v of no node", kind, y, e)
			}
		}
	}
}

// 13.2, 13.3: types' texts of types that were made: no two that differ share one.
func TestTypesOfMadeTrees(t *testing.T) {
	r := rand.New(rand.NewSource(15))
	m := &maker{r: r}
	texts := map[string]string{}
	for range 2000 {
		m.nodes = nil
		x := m.aType(r.Intn(5))
		b := bench{nodes: m.nodes}
		s, e := Type(b.above(x.kind, x.at), x.at)
		if e != api.OK || s != modelType(x.text) {
			t.Fatalf("%q, %v, not %q", s, e, modelType(x.text))
		}
		if other, there := texts[s]; there && other != x.text {
			t.Fatalf("%q is %q and %q", s, other, x.text)
		}
		texts[s] = x.text
	}
}

// 13.1: Same of trees that differ in one thing, right or not.
func TestSame(t *testing.T) {
	node := func() api.Node {
		return api.Node{Kind: 99, Name: "a", Num: 7, Kids: []int{5, -1}, From: 1, To: -2}
	}
	tree := func(changes ...func(n *api.Node)) api.Tree {
		l := []api.Node{node(), {}, node()}
		for _, c := range changes {
			c(&l[2])
		}
		return api.Tree{Nodes: l}
	}
	for _, c := range []struct {
		same   bool
		change func(n *api.Node)
	}{
		{true, func(n *api.Node) {}}, {true, func(n *api.Node) { n.From = 2 }}, {true, func(n *api.Node) { n.To = 2 }}, {true, func(n *api.Node) { n.From, n.To = -9, math.MaxInt }},
		{false, func(n *api.Node) { n.Kind = 98 }}, {false, func(n *api.Node) { n.Name = "b" }}, {false, func(n *api.Node) { n.Name = "" }}, {false, func(n *api.Node) { n.Num = 8 }}, {false, func(n *api.Node) { n.Num = -7 }},
		{false, func(n *api.Node) { n.Kids = nil }}, {false, func(n *api.Node) { n.Kids = []int{5} }}, {false, func(n *api.Node) { n.Kids = []int{-1, 5} }}, {false, func(n *api.Node) { n.Kids = []int{5, -1, 0} }}, {false, func(n *api.Node) { n.Kids[1] = 0 }},
	} {
		a, b := tree(), tree(c.change)
		if Same(a, b) != c.same || Same(b, a) != c.same {
			t.Errorf("%v and %v", a, b)
		}
	}
	a := tree()
	if Same(a, api.Tree{Nodes: a.Nodes[:2]}) || Same(api.Tree{}, a) || Same(a, api.Tree{Nodes: append(tree().Nodes, api.Node{})}) {
		t.Error("another number of nodes")
	}
	if !Same(api.Tree{}, api.Tree{Nodes: []api.Node{}}) || !Same(api.Tree{Nodes: []api.Node{{Kids: []int{}}}}, api.Tree{Nodes: []api.Node{{}}}) {
		t.Error("nil and empty lists")
	}
	r := rand.New(rand.NewSource(2))
	m := &maker{r: r}
	for range 500 {
		x, _ := m.tree(1+r.Intn(2), r.Intn(3))
		y, _ := Sub(x, len(x.Nodes)-1)
		k := r.Intn(len(y.Nodes))
		y.Nodes[k].From, y.Nodes[k].To = 1000, 0
		if !Same(x, y) {
			t.Fatal("places alone")
		}
		change(r, y.Nodes)
		same := reflect.DeepEqual(withoutPlaces(x), withoutPlaces(y))
		if Same(x, y) != same || Same(y, x) != same {
			t.Fatalf("%v and %v", x, y)
		}
	}
}

func withoutPlaces(x api.Tree) []api.Node {
	var l []api.Node
	for _, n := range x.Nodes {
		n.From, n.To = 0, 0
		n.Kids = append([]int{}, n.Kids...)
		l = append(l, n)
	}
	return l
}

// R3: arguments are neither changed nor shared, nor do lists of one answer share anything, spare room too.
func TestMemory(t *testing.T) {
	r := rand.New(rand.NewSource(3))
	m := &maker{r: r}
	for range 100 {
		x, _ := m.tree(2, 2)
		for k := range x.Nodes {
			x.Nodes[k].Kids = append(make([]int, 0, len(x.Nodes[k].Kids)+3), x.Nodes[k].Kids...)
		}
		kept, _ := Sub(x, len(x.Nodes)-1)
		y, _ := Sub(x, len(x.Nodes)-1)
		parents, _ := Parents(x)
		again, _ := Parents(x)
		Print(x)
		Depth(x)
		Type(x, 0)
		spoil(parents)
		for k := range y.Nodes {
			spoil(y.Nodes[k].Kids)
			for n := range y.Nodes {
				if n != k && slices.Contains(y.Nodes[n].Kids, -77) && n > k {
					t.Fatal("two lists share memory")
				}
			}
		}
		y.Nodes = append(y.Nodes[:0:cap(y.Nodes)], api.Node{Name: "spoilt"})
		if !identical(kept, x) {
			t.Fatal("the argument was changed, or is shared")
		}
		for _, n := range x.Nodes {
			if slices.Contains(n.Kids[:cap(n.Kids)], -77) {
				t.Fatal("spare room of the argument is shared")
			}
		}
		if slices.Contains(again, -77) {
			t.Fatal("two answers share memory")
		}
	}
}

// spoil writes over a list, spare room too.
func spoil(l []int) {
	l = l[:cap(l)]
	for k := range l {
		l[k] = -77
	}
}

// 13.2: the parts of a tree of the chapter's kind, one by one.
func TestPartsOfOne(t *testing.T) {
	// fn f ( a : i64 ) { a + 1 }
	x := api.Tree{Nodes: []api.Node{
		{Kind: api.KTyInt}, {Kind: api.KParam, Name: "a", Kids: []int{0}, From: 5, To: 9}, {Kind: api.KTyUnit}, {Kind: api.KVar, Name: "a"}, {Kind: api.KNum, Num: 1},
		{Kind: api.KBin, Name: "+", Kids: []int{3, 4}}, {Kind: api.KBlock, Num: 1, Kids: []int{5}}, {Kind: api.KFn, Name: "f", Num: 1, Kids: []int{1, 2, 6}}, {Kind: api.KCrate, Kids: []int{7}},
	}}
	if l, e := Parents(x); e != api.OK || !slices.Equal(l, []int{1, 7, 7, 5, 5, 6, 7, 8, -1}) {
		t.Error(l, e)
	}
	if d, e := Depth(x); d != 4 || e != api.OK {
		t.Error(d, e)
	}
	if y, e := Sub(x, 6); e != api.OK || !Same(y, api.Tree{Nodes: []api.Node{x.Nodes[3], x.Nodes[4], {Kind: api.KBin, Name: "+", Kids: []int{0, 1}}, {Kind: api.KBlock, Num: 1, Kids: []int{2}}}}) {
		t.Error(y, e)
	}
	if y, e := Sub(x, 1); e != api.OK || !identical(y, api.Tree{Nodes: []api.Node{{Kind: api.KTyInt}, {Kind: api.KParam, Name: "a", Kids: []int{0}, From: 5, To: 9}}}) {
		t.Error(y, e)
	}
	if y, e := Sub(x, 3); e != api.OK || len(y.Nodes) != 1 || y.Nodes[0].Kind != api.KVar {
		t.Error(y, e)
	}
	// the nodes of two parts between each other
	z := api.Tree{Nodes: []api.Node{
		{Kind: api.KTyInt}, {Kind: api.KTyBool}, {Kind: api.KTyBox, Kids: []int{0}}, {Kind: api.KTyRef, Kids: []int{1}},
		{Kind: api.KField, Name: "a", Kids: []int{2}}, {Kind: api.KField, Name: "b", Kids: []int{3}}, {Kind: api.KStruct, Name: "S", Kids: []int{5, 4}}, {Kind: api.KCrate, Kids: []int{6}},
	}}
	if y, e := Sub(z, 5); e != api.OK || !Same(y, api.Tree{Nodes: []api.Node{{Kind: api.KTyBool}, {Kind: api.KTyRef, Kids: []int{0}}, {Kind: api.KField, Name: "b", Kids: []int{1}}}}) {
		t.Error(y, e)
	}
	if s, e := Print(z); s != "struct S { b : & bool , a : Box < i64 > }" || e != api.OK {
		t.Error(s, e)
	}
}
