// Package flow is no layer: it is what is gone in a function of MIR that is right, and how statements and ends change it (see shared/doc/22-moves.md), for the layers that go through functions by that.
package flow

import (
	"slices"

	"patina/api"
	"patina/mir"
)

// Flow is what goes and comes back in a function.
type Flow struct {
	Fn    api.MFn
	Next  [][]int // the blocks behind each
	Order []int   // of the blocks to which a way leads
	Table
	Steps [][][]Step // of each of these blocks, point by point
}

// Step is a deed whose place is told by its number.
type Step struct {
	Kind, Place int
}

// New is what goes and comes back in a function. Its table has the locals, the places that are named where a way leads, and those that are handed in.
func New(f api.MFn, more ...api.Place) *Flow {
	l := &Flow{Fn: f, Next: NextOf(f.Blocks), Steps: make([][][]Step, len(f.Blocks))}
	l.Order = Order(l.Next, 0)
	named := slices.Clone(more)
	for k := range f.Locals {
		named = append(named, api.Place{Local: k})
	}
	for _, b := range l.Order {
		for i := range len(f.Blocks[b].Stmts) + 1 {
			for _, d := range DeedsAt(f.Blocks[b], i) {
				named = append(named, d.Place)
			}
		}
	}
	l.Table = newTable(named)
	for _, b := range l.Order {
		l.Steps[b] = l.stepsOf(f.Blocks[b])
	}
	return l
}

func (l *Flow) stepsOf(b api.MBlock) [][]Step {
	points := make([][]Step, len(b.Stmts)+1)
	for i := range points {
		for _, d := range DeedsAt(b, i) {
			points[i] = append(points[i], Step{d.Kind, l.Number(d.Place)})
		}
	}
	return points
}

// NextOf are the blocks behind each, each once.
func NextOf(blocks []api.MBlock) [][]int {
	l := make([][]int, len(blocks))
	for k, b := range blocks {
		l[k] = mir.Next(b.Term)
	}
	return l
}

// Order are those to which a way leads from some of them, each ahead of what comes behind it, but for rings. (Of blocks it is mir's own order; but that looks at all functions again each time it is asked.)
func Order(next [][]int, first ...int) []int {
	var left []int
	seen := make([]bool, len(next))
	var walk func(k int)
	walk = func(k int) {
		seen[k] = true
		for _, to := range next[k] {
			if !seen[to] {
				walk(to)
			}
		}
		left = append(left, k)
	}
	for _, k := range first {
		if !seen[k] {
			walk(k)
		}
	}
	slices.Reverse(left)
	return left
}

// Rounds are what is gone at the beginnings of blocks, nil of those to which no way leads. What is left behind a block, and how what ways that meet have is brought together, is handed in.
func (l *Flow) Rounds(behind func(b int, at Set) Set, bring func(to, from Set) bool) []Set {
	at := make([]Set, len(l.Next))
	changed := make([]bool, len(l.Next)) // since its block was gone through
	at[0], changed[0] = l.atFirst(), true
again:
	for _, b := range l.Order {
		if !changed[b] {
			continue
		}
		changed[b] = false
		gone := behind(b, at[b])
		for _, to := range l.Next[b] {
			if at[to] == nil {
				at[to], changed[to] = slices.Clone(gone), true
			} else if bring(at[to], gone) {
				changed[to] = true
			}
		}
	}
	if slices.Contains(changed, true) {
		goto again
	}
	return at
}

// atFirst is what is gone at the beginning of the function: all locals but the parameters.
func (l *Flow) atFirst() Set {
	gone := emptySet(len(l.Places))
	for k, p := range l.Places {
		if p.Local == 0 || p.Local > l.Fn.Params {
			gone.put(k, k+1)
		}
	}
	return gone
}

// Behind is what is gone behind a block's end, with what is gone at its beginning.
func (l *Flow) Behind(b int, at Set) Set {
	gone := slices.Clone(at)
	for i := range l.Steps[b] {
		l.Pass(gone, b, i)
	}
	return gone
}

// Pass does what is done at a point.
func (l *Flow) Pass(gone Set, b, i int) {
	for _, s := range l.Steps[b][i] {
		l.Do(gone, s)
	}
}

// Do does one step: what it takes or loses goes, what it sets comes back.
func (l *Flow) Do(gone Set, s Step) {
	switch s.Kind {
	case Moves, Drops, Frees, Begins, Ends:
		l.Put(gone, s.Place)
	case Sets:
		if !l.HasAround(gone, s.Place) {
			gone.leave(s.Place, l.ends[s.Place])
		}
	}
}
