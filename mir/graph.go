package mir

import (
	"slices"

	"patina/api"
)

// graph are the blocks of a function, each with those that may come behind it.
type graph [][]int

func graphOf(f api.MFn) graph {
	g := make(graph, len(f.Blocks))
	for k, b := range f.Blocks {
		g[k] = Next(b.Term)
	}
	return g
}

// ahead are the blocks ahead of each.
func (g graph) ahead() [][]int {
	l := make([][]int, len(g))
	for k, next := range g {
		for _, to := range next {
			l[to] = append(l[to], k)
		}
	}
	return l
}

// order is the reverse of the order in which a walk from block 0 leaves blocks.
func (g graph) order() []int {
	var left, stack []int
	seen := make([]bool, len(g))
	gone := make([]int, len(g)) // to how many behind a block the walk went
	at := 0
enter:
	seen[at] = true
	stack = append(stack, at)
again:
	for gone[at] < len(g[at]) {
		to := g[at][gone[at]]
		gone[at]++
		if !seen[to] {
			at = to
			goto enter
		}
	}
	left = append(left, at)
	stack = stack[:len(stack)-1]
	if len(stack) > 0 {
		at = stack[len(stack)-1]
		goto again
	}
	slices.Reverse(left)
	return left
}

// tree are the dominators of blocks, and the places of blocks in the order, which say which of two is to be gone up from.
type tree struct {
	above []int // what dominates each at once; of block 0 itself; -1: not known, or not come to
	place []int
}

// dominators are the blocks that dominate each at once; -1: none.
func (g graph) dominators() []int {
	t := g.tree(g.order())
	t.above[0] = -1
	return t.above
}

// tree brings what dominates each block to what all ahead of it share, until nothing changes.
func (g graph) tree(order []int) tree {
	t := tree{slices.Repeat([]int{-1}, len(g)), make([]int, len(g))}
	for k, b := range order {
		t.place[b] = k
	}
	t.above[0] = 0
	ahead := g.ahead()
	for changed := true; changed; {
		changed = false
		for _, b := range order[1:] {
			if shared := t.sharedBy(ahead[b]); shared != t.above[b] {
				t.above[b] = shared
				changed = true
			}
		}
	}
	return t
}

// sharedBy is the nearest block that dominates all of those of which something is known.
func (t tree) sharedBy(blocks []int) int {
	shared := -1
	for _, b := range blocks {
		switch {
		case t.above[b] < 0:
		case shared < 0:
			shared = b
		default:
			shared = t.shared(shared, b)
		}
	}
	return shared
}

func (t tree) shared(a, b int) int {
	for a != b {
		if t.place[a] < t.place[b] {
			a, b = b, a
		}
		a = t.above[a]
	}
	return a
}

// loops are the edges to a block that dominates theirs, or is it.
func (g graph) loops() [][2]int {
	var l [][2]int
	order := g.order()
	t := g.tree(order)
	for _, a := range slices.Sorted(slices.Values(order)) {
		for _, b := range slices.Sorted(slices.Values(g[a])) {
			if t.shared(a, b) == b {
				l = append(l, [2]int{a, b})
			}
		}
	}
	return l
}
