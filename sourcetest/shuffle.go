package sourcetest

import (
	"slices"

	"patina/api"
)

// Shuffled is the same tree with its nodes in another order, by choices, each behind its kids.
func Shuffled(choose func(n int) int, t api.Tree) api.Tree {
	places := make([]int, len(t.Nodes))
	left := make([]int, len(t.Nodes))
	parent := make([]int, len(t.Nodes))
	var ready []int
	for k, n := range t.Nodes {
		left[k] = len(n.Kids)
		for _, kid := range n.Kids {
			parent[kid] = k
		}
		if left[k] == 0 {
			ready = append(ready, k)
		}
	}
	var out api.Tree
	for len(ready) > 0 {
		i := choose(len(ready))
		k := ready[i]
		ready = slices.Delete(ready, i, i+1)
		n := t.Nodes[k]
		n.Kids = nil
		for _, kid := range t.Nodes[k].Kids {
			n.Kids = append(n.Kids, places[kid])
		}
		places[k] = len(out.Nodes)
		out.Nodes = append(out.Nodes, n)
		if k == len(t.Nodes)-1 {
			break
		}
		if left[parent[k]]--; left[parent[k]] == 0 {
			ready = append(ready, parent[k])
		}
	}
	return out
}
