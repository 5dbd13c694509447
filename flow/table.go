package flow

import (
	"cmp"
	"slices"

	"patina/api"
)

// Table are places in order, so that what is within one stands right behind it.
type Table struct {
	Places  []api.Place
	ends    []int // of each the first one behind it that is not within it
	above   []int // of each the nearest one that it is within; -1: none
	compare func(a, b api.Place) int
}

// Within tells whether a place is a part of another one, or is it.
func Within(p, q api.Place) bool {
	return p.Local == q.Local && len(p.Path) >= len(q.Path) && slices.Equal(p.Path[:len(q.Path)], q.Path)
}

// newTable are places by their locals, then by their paths, one ahead of those that begin with it.
func newTable(named []api.Place) Table {
	compare := func(a, b api.Place) int {
		return cmp.Or(cmp.Compare(a.Local, b.Local), slices.Compare(a.Path, b.Path))
	}
	t := Table{Places: inOrder(named, compare), compare: compare}
	t.nest()
	return t
}

// inOrder are the places of a list, each once, in the order that is handed in.
func inOrder(l []api.Place, compare func(a, b api.Place) int) []api.Place {
	slices.SortFunc(l, compare)
	return slices.CompactFunc(l, func(a, b api.Place) bool { return compare(a, b) == 0 })
}

// nest finds which places are within which.
func (t *Table) nest() {
	t.ends = slices.Repeat([]int{len(t.Places)}, len(t.Places))
	t.above = slices.Repeat([]int{-1}, len(t.Places))
	var open []int // those that the place at hand may be within, the innermost last
	for k, p := range t.Places {
		for len(open) > 0 && !Within(p, t.Places[open[len(open)-1]]) {
			t.ends[open[len(open)-1]] = k
			open = open[:len(open)-1]
		}
		if len(open) > 0 {
			t.above[k] = open[len(open)-1]
		}
		open = append(open, k)
	}
}

// Number is where a place stands that is in the table.
func (t *Table) Number(p api.Place) int {
	k, _ := slices.BinarySearchFunc(t.Places, p, t.compare)
	return k
}

// Put puts a place into a set, with all that are within it.
func (t *Table) Put(s Set, place int) { s.put(place, t.ends[place]) }

// HasPart tells whether a set has a place, or one that is within it.
func (t *Table) HasPart(s Set, place int) bool { return s.hasAny(place, t.ends[place]) }

// HasAround tells whether a set has another place that a place is within.
func (t *Table) HasAround(s Set, place int) bool {
	return t.above[place] >= 0 && s.Has(t.above[place])
}

// Outermost are the places of a set that are within no other one of it, in the table's memory.
func (t *Table) Outermost(s Set) []api.Place { return t.outermost(s, 0, len(t.Places)) }

// OutermostIn are those of them that are within a place, or are it.
func (t *Table) OutermostIn(s Set, place int) []api.Place {
	return t.outermost(s, place, t.ends[place])
}

func (t *Table) outermost(s Set, from, to int) []api.Place {
	var l []api.Place
	for k := from; k < to; k++ {
		if s.Has(k) && !t.HasAround(s, k) {
			l = append(l, t.Places[k])
		}
	}
	return l
}
