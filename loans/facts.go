package loans

import (
	"slices"

	"patina/api"
)

// facts are the facts of points to which a way leads.
func (x *function) facts() api.Facts {
	var f api.Facts
	for _, b := range slices.Sorted(slices.Values(x.order[:x.reached])) {
		live := x.liveAt(b)
		for i, s := range x.steps[b] {
			if s.issued != noLoan {
				f.Issued = append(f.Issued, [4]int{b, i, int(s.sets), int(s.issued)})
			}
			for _, q := range x.behind(b, i) {
				f.Edges = append(f.Edges, [4]int{b, i, q[0], q[1]})
			}
			for _, o := range s.from {
				f.Subsets = append(f.Subsets, [4]int{b, i, int(o), int(s.sets)})
			}
			f.Killed = append(f.Killed, withPoint(b, i, x.lent[s.kills])...)
			f.Live = append(f.Live, withPoint(b, i, live[i])...)
			f.Against = append(f.Against, withPoint(b, i, x.against(b, i))...)
		}
	}
	return f
}

// behind are the points right behind one, rising.
func (x *function) behind(b, i int) [][2]int {
	if i < len(x.fn.Blocks[b].Stmts) {
		return [][2]int{{b, i + 1}}
	}
	var l [][2]int
	for _, to := range slices.Sorted(slices.Values(x.next[b])) {
		l = append(l, [2]int{to, 0})
	}
	return l
}

// withPoint are the numbers of a set, each behind a point.
func withPoint[K ~int](b, i int, s set[K]) [][3]int {
	var l [][3]int
	for k := range s.all() {
		l = append(l, [3]int{b, i, int(k)})
	}
	return l
}
