package moves

import (
	"cmp"
	"slices"

	"patina/api"
)

// table are places in order, so that what is within one stands right behind it.
type table struct {
	places  []api.Place
	ends    []int // of each the first one behind it that is not within it
	above   []int // of each the nearest one that it is within; -1: none
	compare func(a, b api.Place) int
}

// newTable are places by their locals, then by their paths, one ahead of those that begin with it.
func newTable(named []api.Place) table {
	compare := func(a, b api.Place) int {
		return cmp.Or(cmp.Compare(a.Local, b.Local), slices.Compare(a.Path, b.Path))
	}
	t := table{places: inOrder(named, compare), compare: compare}
	t.nest()
	return t
}

// inOrder are the places of a list, each once, in the order that is handed in.
func inOrder(l []api.Place, compare func(a, b api.Place) int) []api.Place {
	slices.SortFunc(l, compare)
	return slices.CompactFunc(l, func(a, b api.Place) bool { return compare(a, b) == 0 })
}

// nest finds which places are within which.
func (t *table) nest() {
	t.ends = slices.Repeat([]int{len(t.places)}, len(t.places))
	t.above = slices.Repeat([]int{-1}, len(t.places))
	var open []int // those that the place at hand may be within, the innermost last
	for k, p := range t.places {
		for len(open) > 0 && !Within(p, t.places[open[len(open)-1]]) {
			t.ends[open[len(open)-1]] = k
			open = open[:len(open)-1]
		}
		if len(open) > 0 {
			t.above[k] = open[len(open)-1]
		}
		open = append(open, k)
	}
}

// number is where a place stands that is in the table.
func (t *table) number(p api.Place) int {
	k, _ := slices.BinarySearchFunc(t.places, p, t.compare)
	return k
}

// isWithinGone tells whether a place is within another one that is gone.
func (t *table) isWithinGone(gone set, place int) bool {
	return t.above[place] >= 0 && gone.has(t.above[place])
}

// outermost are the places of a set that are within no other one of it, in memory of their own.
func (t *table) outermost(gone set) []api.Place {
	var l []api.Place
	for k := range t.places {
		if gone.has(k) && !t.isWithinGone(gone, k) {
			l = append(l, copied(t.places[k]))
		}
	}
	return l
}
