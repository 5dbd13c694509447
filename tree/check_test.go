package tree

import (
	"math"
	"math/rand"
	"slices"
	"strings"
	"testing"

	"patina/api"
)

// bench lays nodes one behind the other.
type bench struct {
	nodes []api.Node
}

func (b *bench) put(kind int, name string, num int64, kids ...int) int {
	b.nodes = append(b.nodes, api.Node{Kind: kind, Name: name, Num: num, Kids: kids})
	return len(b.nodes) - 1
}

// least lays a right node of a kind with as little as it may have.
func (b *bench) least(kind int) int {
	switch kind {
	case api.KFn:
		unit := b.put(api.KTyUnit, "", 0)
		return b.put(kind, "f", 0, unit, b.put(api.KBlock, "", 0))
	case api.KField, api.KParam:
		return b.put(kind, "a", 0, b.put(api.KTyInt, "", 0))
	case api.KTyRef, api.KTyMut, api.KTyBox:
		return b.put(kind, "", 0, b.put(api.KTyInt, "", 0))
	case api.KLet, api.KInit, api.KGet:
		return b.put(kind, "a", 0, b.put(api.KNil, "", 0))
	case api.KDo, api.KNeg, api.KNot, api.KStar, api.KBorrow, api.KNew, api.KMatch:
		return b.put(kind, "", 0, b.put(api.KNil, "", 0))
	case api.KSet:
		left := b.put(api.KNil, "", 0)
		return b.put(kind, "", 0, left, b.put(api.KNil, "", 0))
	case api.KBin:
		left := b.put(api.KNil, "", 0)
		return b.put(kind, "+", 0, left, b.put(api.KNil, "", 0))
	case api.KWhile, api.KIf:
		left := b.put(api.KNil, "", 0)
		return b.put(kind, "", 0, left, b.put(api.KBlock, "", 0))
	case api.KArm:
		left := b.put(api.KPAny, "", 0)
		return b.put(kind, "", 0, left, b.put(api.KNil, "", 0))
	case api.KStruct, api.KEnum, api.KVariant, api.KTyName, api.KVar, api.KCall, api.KMake, api.KPVar:
		return b.put(kind, "n", 0)
	case api.KPick, api.KPPick:
		return b.put(kind, "E::V", 0)
	}
	return b.put(kind, "", 0)
}

// above lays what a node of a kind may stand in, up to the root.
func (b *bench) above(kind, k int) api.Tree {
	item := func(n int) api.Tree {
		b.put(api.KCrate, "", 0, n)
		return api.Tree{Nodes: b.nodes}
	}
	body := func(num int64, n int) api.Tree {
		unit := b.put(api.KTyUnit, "", 0)
		return item(b.put(api.KFn, "f", 0, unit, b.put(api.KBlock, "", num, n)))
	}
	switch rows[kind].letter {
	case "c", "":
		return api.Tree{Nodes: b.nodes}
	case "F", "S", "E":
		return item(k)
	case "f":
		return item(b.put(api.KStruct, "S", 0, k))
	case "v":
		return item(b.put(api.KEnum, "E", 0, k))
	case "p":
		unit := b.put(api.KTyUnit, "", 0)
		return item(b.put(api.KFn, "f", 1, k, unit, b.put(api.KBlock, "", 0)))
	case "t":
		return item(b.put(api.KStruct, "S", 0, b.put(api.KField, "a", 0, k)))
	case "s":
		return body(0, k)
	case "n":
		return body(1, b.put(api.KMake, "S", 0, k))
	case "a":
		subject := b.put(api.KNil, "", 0)
		return body(1, b.put(api.KMatch, "", 0, subject, k))
	case "q":
		value := b.put(api.KNil, "", 0)
		return b.above(api.KArm, b.put(api.KArm, "", 0, k, value))
	}
	return body(1, k)
}

func allKinds() []int {
	var l []int
	for kind := range rows {
		l = append(l, kind)
	}
	slices.Sort(l)
	return l
}

func wantCheck(t *testing.T, x api.Tree, right bool) {
	t.Helper()
	want := api.ErrTree
	if right {
		want = api.OK
	}
	if e := Check(x); e != want {
		t.Errorf("Check tells %v of %v", e, x)
	}
}

// 13.1: each kind with any kids, up to two of any kind, and three of any group.
func TestKidsOfEachKind(t *testing.T) {
	kinds := allKinds()
	if len(kinds) != 45 {
		t.Fatal(len(kinds))
	}
	groups := []int{api.KCrate, api.KFn, api.KStruct, api.KEnum, api.KField, api.KVariant, api.KParam, api.KTyBox, api.KBlock, api.KIf, api.KSet, api.KBin, api.KInit, api.KArm, api.KPVar}
	var lists [][]int
	lists = append(lists, nil)
	for _, a := range kinds {
		lists = append(lists, []int{a})
		for _, b := range kinds {
			lists = append(lists, []int{a, b})
		}
	}
	for _, a := range groups {
		for _, b := range groups {
			for _, c := range groups {
				lists = append(lists, []int{a, b, c})
			}
		}
	}
	lists = append(lists, []int{api.KParam, api.KParam, api.KTyInt, api.KBlock}, []int{api.KNil, api.KArm, api.KArm, api.KArm}, []int{api.KDo, api.KLet, api.KWhile, api.KIf})
	rights := map[int]int{}
	for _, kind := range kinds {
		for _, l := range lists {
			for _, num := range []int64{0, 1, 2} {
				if num > 0 && kind != api.KFn && kind != api.KBlock {
					continue
				}
				var b bench
				var kids []int
				for _, x := range l {
					kids = append(kids, b.least(x))
				}
				name := map[string]string{"no": "", "one": "n", "two": "E::V", "sign": "+"}[rows[kind].name]
				k := b.put(kind, name, num, kids...)
				right := modelNode(b.nodes, b.nodes[k])
				if right {
					rights[kind]++
				}
				if x := b.above(kind, k); Check(x) == api.OK != right {
					t.Fatalf("kind %d, Num %d with kids %v: %v", kind, num, l, Check(x))
				}
			}
		}
		if rights[kind] == 0 {
			t.Errorf("kind %d was never right", kind)
		}
	}
}

// 13.1: what is no kind.
func TestNoKinds(t *testing.T) {
	for _, kind := range []int{0, -1, 8, 9, 17, 18, 19, 28, 29, 48, 49, 55, 63, 64, 64 + api.KNil, 128 + api.KNil, -64 + api.KNil, math.MaxInt, math.MinInt} {
		for _, place := range []int{api.KFn, api.KTyInt, api.KDo, api.KNil, api.KPAny} {
			var b bench
			x := b.above(place, b.put(kind, "", 0))
			wantCheck(t, x, false)
		}
	}
}

// 13.1: names of each kind.
func TestNames(t *testing.T) {
	longest := strings.Repeat("n", api.MaxName)
	names := []string{
		"", "a", "_", "__", "_1", "a1", "1a", "1", "Z_9", "new", "main", "print", "self", longest, longest + "n", "a b", " a", "a ", "a\n", "a-b", "é", "a\xff", "\x00", "fn ", "Fn",
		"E::V", "E::", "::V", "::", "E::V::W", "E:V", "E: :V", "E :: V", "E::fn", "i64::V", "Box::new", "E::_", "E::1", longest + "::" + longest, longest + "n::V", "E::" + longest + "n", "E::V::", "::E::V", "E:::V",
		"||", "&&", "==", "!=", "<", ">", "<=", ">=", "+", "-", "*", "/", "%", "=", "!", "&", "|", "<<", "->", "=>", "++", "+ ", "::", ".", "^",
	}
	for _, word := range strings.Fields("fn struct enum let mut while if else match return break continue true false i64 bool Box") {
		names = append(names, word, word+"::V", "E::"+word, word+"1")
	}
	for _, kind := range allKinds() {
		rights := 0
		for _, name := range names {
			var b bench
			k := b.least(kind)
			b.nodes[k].Name = name
			right := modelNode(b.nodes, b.nodes[k])
			if right {
				rights++
			}
			if Check(b.above(kind, k)) == api.OK != right {
				t.Errorf("kind %d with the Name %q", kind, name)
			}
		}
		if rights == 0 {
			t.Errorf("kind %d has never a right Name", kind)
		}
	}
}

// 13.1: numbers of each kind.
func TestNums(t *testing.T) {
	for _, kind := range allKinds() {
		rights := map[int64]bool{}
		for _, num := range []int64{0, 1, -1, 2, -2, 42, 1 << 32, 1<<32 + 1, math.MaxInt64, -math.MaxInt64, math.MinInt64, math.MinInt64 + 2} {
			var b bench
			k := b.least(kind)
			b.nodes[k].Num = num
			right := modelNode(b.nodes, b.nodes[k])
			rights[num] = right
			if Check(b.above(kind, k)) == api.OK != right {
				t.Errorf("kind %d with the Num %d", kind, num)
			}
		}
		if kind == api.KPNum && (rights[math.MinInt64] || !rights[-math.MaxInt64]) || kind == api.KNum && (rights[-1] || !rights[math.MaxInt64]) {
			t.Error(rights)
		}
	}
	for params := range 4 { // KFn: how many KParam
		for num := int64(-1); num < 7; num++ {
			var b bench
			var kids []int
			for range params {
				kids = append(kids, b.least(api.KParam))
			}
			kids = append(kids, b.least(api.KTyBool), b.least(api.KBlock))
			wantCheck(t, b.above(api.KFn, b.put(api.KFn, "f", num, kids...)), num == int64(params))
		}
	}
}

// 13.1: From and To of each kind.
func TestPlaces(t *testing.T) {
	for _, kind := range allKinds() {
		for _, c := range []struct {
			from, to int
			right    bool
		}{
			{0, 0, true}, {5, 5, true}, {0, 7, true}, {7, math.MaxInt, true}, {math.MaxInt, math.MaxInt, true},
			{1, 0, false}, {-1, 0, false}, {-1, -1, false}, {0, -1, false}, {math.MinInt, math.MaxInt, false}, {math.MaxInt, 0, false},
		} {
			var b bench
			k := b.least(kind)
			b.nodes[k].From, b.nodes[k].To = c.from, c.to
			wantCheck(t, b.above(kind, k), c.right)
		}
	}
}

// 13.1: as many nodes as there may be; the last one.
func TestNumberOfNodes(t *testing.T) {
	wantCheck(t, api.Tree{}, false)
	wantCheck(t, api.Tree{Nodes: []api.Node{}}, false)
	wantCheck(t, api.Tree{Nodes: []api.Node{{Kind: api.KCrate}}}, true)
	wantCheck(t, api.Tree{Nodes: []api.Node{{Kind: api.KCrate, Kids: []int{}}}}, true)
	for _, kind := range allKinds() {
		var b bench
		b.least(kind)
		wantCheck(t, api.Tree{Nodes: b.nodes}, kind == api.KCrate)
	}
	for _, n := range []int{api.MaxNodes - 1, api.MaxNodes, api.MaxNodes + 1} {
		x := wide(n)
		if len(x.Nodes) != n || Check(x) == api.OK != (n <= api.MaxNodes) {
			t.Error(n, Check(x))
		}
	}
}

// wide is a tree of so many nodes side by side.
func wide(n int) api.Tree {
	var b bench
	var kids []int
	for range n - 1 {
		kids = append(kids, b.put(api.KStruct, "S", 0))
	}
	b.put(api.KCrate, "", 0, kids...)
	return api.Tree{Nodes: b.nodes}
}

// 13.1: kids that are no nodes ahead, that stand twice, that stand nowhere.
func TestKidsThatAreNotLesser(t *testing.T) {
	crate := func(kids ...int) []api.Node {
		return []api.Node{{Kind: api.KStruct, Name: "A"}, {Kind: api.KStruct, Name: "B"}, {Kind: api.KCrate, Kids: kids}}
	}
	for _, c := range []struct {
		nodes []api.Node
		right bool
	}{
		{crate(0, 1), true}, {crate(1, 0), true},
		{crate(0, 1, 2), false}, {crate(0, 2), false}, {crate(0, 1, 3), false}, {crate(0, 1, -1), false}, {crate(0, -1), false}, {crate(0, 1, math.MinInt), false}, {crate(0, 1, math.MaxInt), false},
		{crate(0, 1, 1), false}, {crate(0, 0, 1), false}, {crate(1, 1), false}, {crate(0), false}, {crate(1), false}, {crate(), false},
		{[]api.Node{{Kind: api.KTyInt}, {Kind: api.KField, Name: "a", Kids: []int{0}}, {Kind: api.KField, Name: "b", Kids: []int{0}}, {Kind: api.KStruct, Name: "S", Kids: []int{1, 2}}, {Kind: api.KCrate, Kids: []int{3}}}, false}, // in two
		{[]api.Node{{Kind: api.KCrate}, {Kind: api.KCrate}}, false},
		{[]api.Node{{Kind: api.KTyBox, Kids: []int{0}}, {Kind: api.KCrate}}, false}, // its own kid, and nobody else's
		{[]api.Node{{Kind: api.KCrate}, {Kind: api.KCrate, Kids: []int{0}}}, false},
		{[]api.Node{{Kind: api.KField, Name: "a", Kids: []int{1}}, {Kind: api.KTyInt}, {Kind: api.KStruct, Name: "S", Kids: []int{0}}, {Kind: api.KCrate, Kids: []int{2}}}, false},                                                                                  // a kid behind it
		{[]api.Node{{Kind: api.KTyBox, Kids: []int{0}}, {Kind: api.KField, Name: "a", Kids: []int{0}}, {Kind: api.KStruct, Name: "S", Kids: []int{1}}, {Kind: api.KCrate, Kids: []int{2}}}, false},                                                                  // its own kid
		{[]api.Node{{Kind: api.KTyBox, Kids: []int{1}}, {Kind: api.KTyBox, Kids: []int{0}}, {Kind: api.KCrate}}, false},                                                                                                                                             // each other's
		{[]api.Node{{Kind: api.KNil}, {Kind: api.KNil}, {Kind: api.KBin, Name: "+", Kids: []int{1, 0}}, {Kind: api.KTyUnit}, {Kind: api.KBlock, Num: 1, Kids: []int{2}}, {Kind: api.KFn, Name: "f", Kids: []int{3, 4}}, {Kind: api.KCrate, Kids: []int{5}}}, true},  // in another order
		{[]api.Node{{Kind: api.KNil}, {Kind: api.KNil}, {Kind: api.KBin, Name: "+", Kids: []int{0, 0}}, {Kind: api.KTyUnit}, {Kind: api.KBlock, Num: 1, Kids: []int{2}}, {Kind: api.KFn, Name: "f", Kids: []int{3, 4}}, {Kind: api.KCrate, Kids: []int{5}}}, false}, // twice in one
	} {
		wantCheck(t, api.Tree{Nodes: c.nodes}, c.right)
	}
	huge := api.Tree{Nodes: []api.Node{{Kind: api.KStruct, Name: "A"}, {Kind: api.KCrate, Kids: make([]int, 1<<20)}}}
	wantCheck(t, huge, false)
}

// deepTree is a tree whose deepest node stands at a depth, by way of one kind that stands in itself.
func deepTree(kind, depth int) api.Tree {
	var b bench
	switch kind {
	case api.KTyBox, api.KTyRef: // crate, struct, field
		k := b.put(api.KTyInt, "", 0)
		for range depth - 3 {
			k = b.put(kind, "", 0, k)
		}
		return b.above(kind, k)
	case api.KPPick: // crate, fn, block, match, arm
		k := b.put(api.KPAny, "", 0)
		for range depth - 5 {
			k = b.put(kind, "E::V", 0, k)
		}
		return b.above(kind, k)
	case api.KIf: // crate, fn, block; its blocks stand deeper than it
		k := b.put(api.KBlock, "", 0)
		for range depth - 3 {
			cond := b.put(api.KNil, "", 0)
			k = b.put(kind, "", 0, cond, b.put(api.KBlock, "", 0), k)
		}
		return b.above(kind, k)
	case api.KBlock:
		k := b.put(api.KBlock, "", 0)
		for range depth - 3 {
			k = b.put(kind, "", 1, k)
		}
		return b.above(kind, k)
	}
	k := b.put(api.KNil, "", 0)
	for range depth - 3 {
		k = b.put(kind, "", 0, k)
	}
	return b.above(kind, k)
}

// 13.1, 13.2: as deep as a node may stand, and one deeper.
func TestDepths(t *testing.T) {
	for _, kind := range []int{api.KTyBox, api.KTyRef, api.KPPick, api.KIf, api.KBlock, api.KNeg, api.KNew, api.KBorrow} {
		for _, depth := range []int{5, 6, 100, 101, 4*api.MaxDeep - 1, 4 * api.MaxDeep, 4*api.MaxDeep + 1, 4*api.MaxDeep + 50, 15000} {
			x := deepTree(kind, depth)
			right := depth <= 4*api.MaxDeep
			wantDepth, wantError := depth, api.OK
			if !right {
				wantDepth, wantError = 0, api.ErrTree
			}
			if d, e := Depth(x); d != wantDepth || e != wantError || Check(x) != wantError {
				t.Errorf("kind %d at depth %d: %d, %v, %v", kind, depth, d, e, Check(x))
			}
		}
	}
}

// 13.1, P1: trees that were made right, in any order, and with something changed.
func TestChangedTrees(t *testing.T) {
	r := rand.New(rand.NewSource(13))
	m := &maker{r: r}
	right, wrong := 0, 0
	for range 3000 {
		x, _ := m.tree(r.Intn(3), r.Intn(4))
		wantCheck(t, x, true)
		if !modelRight(x) {
			t.Fatal("the model", x)
		}
		y, _ := shuffled(r, x)
		wantCheck(t, y, true)
		for range 1 + r.Intn(2) {
			change(r, y.Nodes)
		}
		ok := modelRight(y)
		wantCheck(t, y, ok)
		wantAnswers(t, y, ok)
		if ok {
			right++
		} else {
			wrong++
		}
	}
	if right < 300 || wrong < 300 {
		t.Error(right, wrong)
	}
}

// change changes one thing of one node.
func change(r *rand.Rand, nodes []api.Node) {
	n := &nodes[r.Intn(len(nodes))]
	switch r.Intn(8) {
	case 0:
		n.Kind = r.Intn(57) - 1
	case 1:
		n.Name = []string{"", "a", "E::V", "fn", "+", "||", "_", "x1"}[r.Intn(8)]
	case 2:
		n.Num = []int64{0, 1, 2, -1, math.MinInt64}[r.Intn(5)]
	case 3:
		n.From, n.To = r.Intn(20)-1, r.Intn(20)-1
	case 4:
		n.Kids = append(slices.Clone(n.Kids), r.Intn(len(nodes)+2)-1)
	case 5:
		if len(n.Kids) > 0 {
			n.Kids = slices.Delete(slices.Clone(n.Kids), 0, 1)
		}
	case 6:
		if len(n.Kids) > 1 {
			n.Kids[0], n.Kids[1] = n.Kids[1], n.Kids[0]
		}
	case 7:
		if len(n.Kids) > 0 {
			n.Kids[r.Intn(len(n.Kids))] = r.Intn(len(nodes)+2) - 1
		}
	}
}

// P1: trees of anything.
func TestAnyTrees(t *testing.T) {
	r := rand.New(rand.NewSource(1))
	for range 20000 {
		var x api.Tree
		for k := range r.Intn(6) {
			n := api.Node{Kind: r.Intn(56), Num: int64(r.Intn(3) - 1)}
			n.Name = []string{"", "a", "E::V", "+", "fn"}[r.Intn(5)]
			for range r.Intn(3) {
				n.Kids = append(n.Kids, r.Intn(k+2)-1)
			}
			n.From, n.To = r.Intn(3)-1, r.Intn(4)
			x.Nodes = append(x.Nodes, n)
		}
		ok := modelRight(x)
		wantCheck(t, x, ok)
		wantAnswers(t, x, ok)
	}
}
