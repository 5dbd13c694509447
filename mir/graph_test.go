package mir

import (
	"math"
	"math/rand"
	"reflect"
	"slices"
	"strconv"
	"strings"
	"testing"

	"patina/api"
)

// graphMir is MIR whose main has these blocks behind one another.
func graphMir(t *testing.T, next [][]int) api.Mir {
	t.Helper()
	m := withMain(t, "bb0\nreturn\n")
	main(&m).Blocks = nil
	for _, to := range next {
		x := api.MTerm{Kind: api.TSwitch, Arg: api.Operand{Kind: api.ONum}, To: slices.Clone(to)}
		switch len(to) {
		case 0:
			x = api.MTerm{Kind: api.TReturn}
		case 1:
			x = api.MTerm{Kind: api.TGoto, To: slices.Clone(to)}
		case 2:
			x = api.MTerm{Kind: api.TIf, Arg: api.Operand{Kind: api.OTruth}, To: slices.Clone(to)}
		default:
			for k := range len(to) - 1 {
				x.Values = append(x.Values, int64(k))
			}
		}
		main(&m).Blocks = append(main(&m).Blocks, api.MBlock{Term: x})
	}
	return m
}

// 19.1: Next of any terminator.
func TestNext(t *testing.T) {
	for _, c := range []struct{ to, want []int }{
		{nil, nil}, {[]int{}, nil}, {[]int{3}, []int{3}}, {[]int{3, 1}, []int{3, 1}}, {[]int{3, 3}, []int{3}}, {[]int{5, 1, 5, 1, 2, 5}, []int{5, 1, 2}}, {[]int{-1, math.MaxInt, -1, math.MinInt}, []int{-1, math.MaxInt, math.MinInt}},
	} {
		for _, kind := range []int{api.TGoto, api.TIf, api.TSwitch, api.TCall, api.TReturn, api.TPanic, 0, -5, 99} {
			given := slices.Clone(c.to)
			got := Next(api.MTerm{Kind: kind, To: given})
			if !slices.Equal(got, c.want) || !slices.Equal(given, c.to) {
				t.Error(kind, c.to, got)
			}
			for k := range got {
				got[k] = 77
			}
			if !slices.Equal(given, c.to) {
				t.Error("shared", c.to)
			}
		}
	}
}

// reaches are the blocks to which a way leads from block 0 that does not come to one.
func reaches(next [][]int, without int) []bool {
	seen := make([]bool, len(next))
	var walk func(k int)
	walk = func(k int) {
		if k == without || seen[k] {
			return
		}
		seen[k] = true
		for _, to := range next[k] {
			walk(to)
		}
	}
	walk(0)
	return seen
}

// dominates tells of each two blocks whether the first dominates the second: without it no way leads there.
func dominates(next [][]int) [][]bool {
	come := reaches(next, -1)
	var l [][]bool
	for a := range next {
		without := reaches(next, a)
		row := make([]bool, len(next))
		for b := range next {
			row[b] = come[a] && come[b] && !without[b]
		}
		l = append(l, row)
	}
	return l
}

// atOnce is the block that dominates one at once, by the definition.
func atOnce(dom [][]bool, b int) int {
	for a := range dom {
		if a == b || !dom[a][b] {
			continue
		}
		nearest := true
		for c := range dom {
			if c != a && c != b && dom[c][b] && !dom[c][a] {
				nearest = false
			}
		}
		if nearest {
			return a
		}
	}
	return -1
}

func postorder(next [][]int) []int {
	var left []int
	seen := make([]bool, len(next))
	var walk func(k int)
	walk = func(k int) {
		seen[k] = true
		for _, to := range next[k] {
			if !seen[to] {
				walk(to)
			}
		}
		left = append(left, k)
	}
	walk(0)
	return left
}

// wantGraph holds what is told of a graph to the definitions.
func wantGraph(t *testing.T, next [][]int) {
	t.Helper()
	m := graphMir(t, next)
	preds := make([][]int, len(next))
	for b := range next {
		for a := range next {
			if slices.Contains(next[a], b) {
				preds[b] = append(preds[b], a)
			}
		}
	}
	if l, e := Preds(m, 2); !same(l, preds) || e != api.OK {
		t.Fatal("Preds", next, l, e)
	}
	order := postorder(next)
	slices.Reverse(order)
	if l, e := Order(m, 2); !slices.Equal(l, order) || e != api.OK {
		t.Fatal("Order", next, l, e)
	}
	dom := dominates(next)
	above := make([]int, len(next))
	var loops [][2]int
	for b := range next {
		above[b] = atOnce(dom, b)
		for _, to := range slices.Compact(slices.Sorted(slices.Values(next[b]))) {
			if dom[to][b] {
				loops = append(loops, [2]int{b, to})
			}
		}
	}
	if l, e := Dominators(m, 2); !slices.Equal(l, above) || e != api.OK {
		t.Fatal("Dominators", next, l, e, above)
	}
	if l, e := Loops(m, 2); !slices.Equal(l, loops) || e != api.OK {
		t.Fatal("Loops", next, l, e, loops)
	}
	wantFollows(t, next, order, above, dom)
}

// wantFollows holds the order and the dominators to 19.3 and 19.4.
func wantFollows(t *testing.T, next [][]int, order, above []int, dom [][]bool) {
	t.Helper()
	place := map[int]int{}
	for k, b := range order {
		place[b] = k
	}
	back := false
	for _, a := range order {
		for _, b := range next[a] {
			back = back || place[b] <= place[a]
		}
	}
	for _, b := range order {
		if b != 0 && place[above[b]] >= place[b] || !dom[0][b] {
			t.Fatal("19.3, 19.4", next, order, above)
		}
		for _, to := range next[b] {
			if !back && place[to] <= place[b] {
				t.Fatal("19.3", next, order)
			}
		}
		for c := range next {
			for d := range next {
				if dom[b][c] && dom[c][d] && !dom[b][d] {
					t.Fatal("19.4", next)
				}
			}
		}
	}
}

// graphOfText is a graph of rows, "1 2, 3, , 0": the blocks behind each.
func graphOfText(s string) [][]int {
	var l [][]int
	for _, row := range strings.Split(s, ",") {
		var to []int
		for _, w := range strings.Fields(row) {
			to = append(to, number(w))
		}
		l = append(l, to)
	}
	return l
}

// 19.2: graphs of each kind.
func TestGraphs(t *testing.T) {
	for _, s := range []string{
		"", "0", "0 0", "1,", "1, 0", "1 2, 3, 3,", "1 1,", "1 2, 3, 3, 1", // one, rings of one and two, branches
		"1, 2, 3 1, 4 0,", "1, 2 3, 1, 4, 1 5,", "1, 2, 2 3, 1 4, 0", // rings within one another
		"1 2, 2, 1", "1 2, 3, 3, 4 1, 2 5,", "1 2, 2 3, 1 3, 0", // rings with two ways in
		", 0, 1", ", 1 2, 1, 0 1", "2, 2 0, 3, , 1 3", "1, , 1 3, 2", // blocks that nothing comes to
		"1 2 3 0, 1 1 1, 3 2 1 2, ", "3 2 1, 2, 3, 1 2 3", "0 1 2 3 4, 4, 3, 2, 1", "4 3 2 1, , , ,",
	} {
		wantGraph(t, graphOfText(s))
	}
}

// 19.1's example, and what the chapter tells of it.
func TestExample(t *testing.T) {
	m := graphMir(t, graphOfText("1 2, 3, 3, 1"))
	order, _ := Order(m, 2)
	above, _ := Dominators(m, 2)
	loops, _ := Loops(m, 2)
	preds, _ := Preds(m, 2)
	if !slices.Equal(order, []int{0, 2, 1, 3}) || !slices.Equal(above, []int{-1, 0, 0, 0}) || len(loops) != 0 || !reflect.DeepEqual(preds[1:], [][]int{{0, 3}, {0}, {1, 2}}) || len(preds[0]) != 0 {
		t.Error(order, above, loops, preds)
	}
}

func TestRandomGraphs(t *testing.T) {
	r := rand.New(rand.NewSource(19))
	for range 3000 {
		n := 1 + r.Intn(12)
		next := make([][]int, n)
		for k := range next {
			for range r.Intn(4) {
				to := r.Intn(n)
				if r.Intn(3) > 0 { // not far
					to = min(n-1, max(0, k+r.Intn(5)-2))
				}
				next[k] = append(next[k], to)
			}
		}
		wantGraph(t, next)
	}
}

// 19.2: as many blocks as there may be, in one row, back to front, all behind each, and with all edges back.
func TestGreatGraphs(t *testing.T) {
	n := api.MaxBlocks
	row, turned, all := make([][]int, n), make([][]int, n), make([][]int, n)
	for k := range n {
		if k+1 < n {
			row[k] = []int{k + 1}
		}
		for to := range k + 2 {
			if to < n {
				all[k] = append(all[k], to)
			}
		}
	}
	turned[0] = []int{n - 1}
	for k := 2; k < n; k++ {
		turned[k] = []int{k - 1}
	}
	for _, next := range [][][]int{row, turned} {
		m := graphMir(t, next)
		want := []int{0}
		for len(want) < n {
			want = append(want, next[want[len(want)-1]][0])
		}
		order, _ := Order(m, 2)
		above, _ := Dominators(m, 2)
		if loops, _ := Loops(m, 2); !slices.Equal(order, want) || len(loops) != 0 {
			t.Error("a row", len(loops))
		}
		for k := 1; k < n; k++ {
			if above[want[k]] != want[k-1] {
				t.Fatal("a row", k)
			}
		}
	}
	m := graphMir(t, all)
	loops, e := Loops(m, 2)
	if e != api.OK || len(loops) != n*(n+1)/2 {
		t.Error("edges back", len(loops))
	}
	preds, _ := Preds(m, 2)
	above, _ := Dominators(m, 2)
	for k := range n {
		if len(preds[k]) != n-max(k-1, 0) || above[k] != k-1 {
			t.Fatal("edges back", strconv.Itoa(k), len(preds[k]), above[k])
		}
	}
}
