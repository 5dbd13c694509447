package moves

import (
	"slices"

	"patina/api"
	"patina/mir"
	"patina/types"
)

// flow is what goes and comes back in a function. A set of its places has with each one that is gone all that are within it.
type flow struct {
	fn    api.MFn
	next  [][]int // the blocks behind each
	order []int   // of the blocks to which a way leads
	table
	steps [][][]step // of each of these blocks, point by point
}

// step is a deed whose place is told by its number.
type step struct {
	kind, place int
}

func newFlow(f api.MFn) *flow {
	l := &flow{fn: f, next: nextOf(f.Blocks), steps: make([][][]step, len(f.Blocks))}
	l.order = order(l.next)
	var named []api.Place
	for k := range f.Locals {
		named = append(named, api.Place{Local: k})
	}
	for _, b := range l.order {
		for i := range len(f.Blocks[b].Stmts) + 1 {
			for _, d := range deedsAt(f.Blocks[b], i) {
				named = append(named, d.place)
			}
		}
	}
	l.table = newTable(named)
	for _, b := range l.order {
		l.steps[b] = l.stepsOf(f.Blocks[b])
	}
	return l
}

func (l *flow) stepsOf(b api.MBlock) [][]step {
	points := make([][]step, len(b.Stmts)+1)
	for i := range points {
		for _, d := range deedsAt(b, i) {
			points[i] = append(points[i], step{d.kind, l.number(d.place)})
		}
	}
	return points
}

func nextOf(blocks []api.MBlock) [][]int {
	l := make([][]int, len(blocks))
	for k, b := range blocks {
		l[k] = mir.Next(b.Term)
	}
	return l
}

// order are the blocks to which a way leads, each ahead of what comes behind it, but for rings. (It is mir's own order; but that looks at all functions again each time it is asked.)
func order(next [][]int) []int {
	var left []int
	seen := make([]bool, len(next))
	var walk func(b int)
	walk = func(b int) {
		seen[b] = true
		for _, to := range next[b] {
			if !seen[to] {
				walk(to)
			}
		}
		left = append(left, b)
	}
	walk(0)
	slices.Reverse(left)
	return left
}

// rounds are what is gone at the beginnings of blocks, nil of those to which no way leads. What ways that meet have is brought together as is handed in.
func (l *flow) rounds(bring func(to, from set) bool) []set {
	at := make([]set, len(l.next))
	changed := make([]bool, len(l.next)) // since its block was gone through
	at[0], changed[0] = l.atFirst(), true
again:
	for _, b := range l.order {
		if !changed[b] {
			continue
		}
		changed[b] = false
		gone := l.behind(b, at[b])
		for _, to := range l.next[b] {
			if at[to] == nil {
				at[to], changed[to] = slices.Clone(gone), true
			} else if bring(at[to], gone) {
				changed[to] = true
			}
		}
	}
	if slices.Contains(changed, true) {
		goto again
	}
	return at
}

// atFirst is what is gone at the beginning of the function: all locals but the parameters.
func (l *flow) atFirst() set {
	gone := emptySet(len(l.places))
	for k, p := range l.places {
		if p.Local == 0 || p.Local > l.fn.Params {
			gone.put(k, k+1)
		}
	}
	return gone
}

// behind is what is gone behind a block's end, with what is gone at its beginning.
func (l *flow) behind(b int, at set) set {
	gone := slices.Clone(at)
	for i := range l.steps[b] {
		l.pass(gone, b, i)
	}
	return gone
}

// pass does what is done at a point.
func (l *flow) pass(gone set, b, i int) {
	for _, s := range l.steps[b][i] {
		l.do(gone, s)
	}
}

func (l *flow) do(gone set, s step) {
	switch s.kind {
	case takes, loses:
		gone.put(s.place, l.ends[s.place])
	case sets:
		if !l.isWithinGone(gone, s.place) {
			gone.leave(s.place, l.ends[s.place])
		}
	}
}

// firstWrong is the first wrong use.
func (l *flow) firstWrong() api.Diag {
	for b, gone := range l.rounds(set.join) {
		for i, steps := range l.steps[b] {
			for _, s := range steps {
				if e := l.wrong(gone, s); e != api.OK {
					return l.diag(e, b, i)
				}
				l.do(gone, s)
			}
		}
	}
	return api.Diag{}
}

// wrong tells what is wrong with a step.
func (l *flow) wrong(gone set, s step) api.Errno {
	isWrong := false
	switch s.kind {
	case takes:
		if l.isBehindReference(l.places[s.place]) {
			return api.ErrMoveOut
		}
		fallthrough
	case reads, tells:
		isWrong = gone.hasAny(s.place, l.ends[s.place])
	case sets:
		isWrong = l.isWithinGone(gone, s.place)
	}
	if isWrong {
		return api.ErrMoved
	}
	return api.OK
}

// isBehindReference tells whether a place's path follows a reference, which a local alone may be.
func (l *flow) isBehindReference(p api.Place) bool {
	ref, _ := types.Ref(l.fn.Locals[p.Local].Type)
	return ref && len(p.Path) > 0
}

func (l *flow) diag(e api.Errno, b, i int) api.Diag {
	block := l.fn.Blocks[b]
	if i == len(block.Stmts) {
		return api.Diag{Code: e, From: block.Term.At, To: block.Term.Till}
	}
	return api.Diag{Code: e, From: block.Stmts[i].From, To: block.Stmts[i].To}
}
