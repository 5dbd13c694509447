package loans

import (
	"slices"
	"strings"

	"patina/api"
	"patina/lookup"
	"patina/mirtest"
)

// point is a block, and a number in it.
type point [2]int

// model is a function's loans as the chapter's words have them, point by point, pair by pair.
type model struct {
	known   *lookup.Types
	f       api.MFn
	points  []point
	next    map[point][]point
	reached map[point]bool
	loans   []api.Loan
	issued  map[point]int
	live    map[point]map[int]bool
	holds   map[point]map[[2]int]bool
}

func modelOf(it api.Items, f api.MFn) *model {
	x := &model{known: lookup.New(it), f: f, next: map[point][]point{}, reached: map[point]bool{}, issued: map[point]int{}, live: map[point]map[int]bool{}, holds: map[point]map[[2]int]bool{}}
	for b, block := range f.Blocks {
		for i := range len(block.Stmts) + 1 {
			p := point{b, i}
			x.points = append(x.points, p)
			x.live[p], x.holds[p] = map[int]bool{}, map[[2]int]bool{}
			if i < len(block.Stmts) {
				x.next[p] = []point{{b, i + 1}}
				x.issue(p, block.Stmts[i])
				continue
			}
			for _, to := range slices.Compact(slices.Sorted(slices.Values(block.Term.To))) {
				x.next[p] = append(x.next[p], point{to, 0})
			}
		}
	}
	x.reach(point{0, 0})
	x.findLive()
	x.findHolds()
	return x
}

func (x *model) issue(p point, s api.MStmt) {
	if s.R.Kind == api.RRef || s.R.Kind == api.RMut {
		x.issued[p] = len(x.loans)
		x.loans = append(x.loans, api.Loan{Place: s.R.Place, Mut: s.R.Kind == api.RMut, Block: p[0], At: p[1], Holder: s.Place.Local})
	}
}

func (x *model) reach(p point) {
	for list := []point{p}; len(list) > 0; {
		p, list = list[0], list[1:]
		if !x.reached[p] {
			x.reached[p] = true
			list = append(list, x.next[p]...)
		}
	}
}

func (x *model) isOrigin(l int) bool { return strings.HasPrefix(x.f.Locals[l].Type, "&") }

// statement is the statement at a point; false: there is the end.
func (x *model) statement(p point) (api.MStmt, bool) {
	b := x.f.Blocks[p[0]]
	if p[1] == len(b.Stmts) {
		return api.MStmt{}, false
	}
	return b.Stmts[p[1]], true
}

func (x *model) end(p point) api.MTerm { return x.f.Blocks[p[0]].Term }

// operands are those at a point that are places.
func (x *model) operands(p point) []api.Operand {
	s, is := x.statement(p)
	l := s.R.Args
	if !is {
		l = append([]api.Operand{x.end(p).Arg}, x.end(p).Args...)
	}
	return slices.DeleteFunc(slices.Clone(l), func(o api.Operand) bool { return o.Kind != api.OCopy && o.Kind != api.OMove })
}

// lent is the place of an R that has one.
func (x *model) lent(p point) (api.Place, bool) {
	s, _ := x.statement(p)
	return s.R.Place, s.R.Kind == api.RRef || s.R.Kind == api.RMut || s.R.Kind == api.RTag
}

// place is the Place of a statement or a call.
func (x *model) place(p point) (api.Place, bool) {
	s, is := x.statement(p)
	if is {
		return s.Place, true
	}
	return x.end(p).Place, x.end(p).Kind == api.TCall
}

// sets tells whether a MSet or a TCall sets the whole of a local at a point.
func (x *model) sets(p point, l int) bool {
	s, is := x.statement(p)
	place, there := x.place(p)
	return there && (!is || s.Kind == api.MSet) && place.Local == l && len(place.Path) == 0
}

func (x *model) uses(p point, o int) bool {
	for _, a := range x.operands(p) {
		if a.Place.Local == o {
			return true
		}
	}
	if q, is := x.lent(p); is && q.Local == o {
		return true
	}
	if q, is := x.place(p); is && q.Local == o && len(q.Path) > 0 {
		return true
	}
	_, isStatement := x.statement(p)
	return !isStatement && x.end(p).Kind == api.TReturn && o == 0
}

// findLive goes back from each use.
func (x *model) findLive() {
	before := map[point][]point{}
	for p, l := range x.next {
		for _, q := range l {
			before[q] = append(before[q], p)
		}
	}
	for o := range x.f.Locals {
		var list []point
		for _, p := range x.points {
			if x.isOrigin(o) && x.uses(p, o) {
				list = append(list, p)
			}
		}
		for len(list) > 0 {
			p := list[0]
			list = list[1:]
			if x.live[p][o] {
				continue
			}
			x.live[p][o] = true
			for _, q := range before[p] {
				if !x.sets(q, o) {
					list = append(list, q)
				}
			}
		}
	}
}

// subset tells whether at a point one origin gets what another one holds.
func (x *model) subset(p point, a, b int) bool {
	if !x.isOrigin(a) || !x.isOrigin(b) || !x.sets(p, b) {
		return false
	}
	s, is := x.statement(p)
	if is && (s.R.Kind == api.RRef || s.R.Kind == api.RMut) {
		return s.R.Place.Local == a && len(s.R.Place.Path) > 0 && s.R.Place.Path[0] == -1
	}
	return slices.ContainsFunc(x.operands(p), func(o api.Operand) bool { return o.Place.Local == a })
}

// killed tells whether a loan is killed at a point.
func (x *model) killed(p point, l int) bool {
	s, _ := x.statement(p)
	whole := x.loans[l].Place.Local
	return x.sets(p, whole) || s.Kind == api.MLive && s.Place.Local == whole
}

// findHolds takes pairs on from point to point by the three rules.
func (x *model) findHolds() {
	list := slices.Clone(x.points)
	for len(list) > 0 {
		p := list[0]
		list = list[1:]
		for _, q := range x.next[p] {
			before := len(x.holds[q])
			if l, is := x.issued[p]; is && x.live[q][x.loans[l].Holder] {
				x.holds[q][[2]int{x.loans[l].Holder, l}] = true
			}
			for pair := range x.holds[p] {
				x.takeOn(p, q, pair[0], pair[1])
			}
			if len(x.holds[q]) > before {
				list = append(list, q)
			}
		}
	}
}

func (x *model) takeOn(p, q point, a, l int) {
	if x.killed(p, l) {
		return
	}
	for o := range x.live[q] {
		if o == a && !x.sets(p, o) || x.subset(p, a, o) {
			x.holds[q][[2]int{o, l}] = true
		}
	}
}

func meet(p, q api.Place) bool { return mirtest.Within(p, q) || mirtest.Within(q, p) }

// behind are the numbers that a place has behind another one that it is within.
func behind(p, q api.Place) []int { return p.Path[len(q.Path):] }

func isPlain(path []int) bool { return !slices.Contains(path, -1) }

// breaks tells whether what stands at a point invalidates a loan.
func (x *model) breaks(p point, k int) bool {
	if l, is := x.issued[p]; is && l == k {
		return false
	}
	l := x.loans[k]
	for _, o := range x.operands(p) {
		if meet(o.Place, l.Place) && (l.Mut || o.Kind == api.OMove) {
			return true
		}
	}
	s, isStatement := x.statement(p)
	q := s.R.Place
	switch s.R.Kind {
	case api.RRef:
		if l.Mut && meet(q, l.Place) {
			return true
		}
	case api.RMut:
		if meet(q, l.Place) {
			return true
		}
	case api.RTag:
		if l.Mut && mirtest.Within(q, l.Place) {
			return true
		}
	}
	q, is := x.place(p)
	around := is && mirtest.Within(l.Place, q)
	switch {
	case !is:
		return false
	case !isStatement || s.Kind == api.MSet:
		return mirtest.Within(q, l.Place) || around && isPlain(behind(l.Place, q))
	case s.Kind == api.MDrop:
		return mirtest.Within(q, l.Place) || around && x.throughBoxes(l.Place, len(q.Path))
	case s.Kind == api.MFree:
		return mirtest.Within(q, l.Place) || around && behind(l.Place, q)[0] == -1 && isPlain(behind(l.Place, q)[1:])
	}
	return l.Place.Local == q.Local && isPlain(l.Place.Path)
}

// throughBoxes tells whether each -1 of a path, from a number on, follows a Box.
func (x *model) throughBoxes(p api.Place, from int) bool {
	for k := from; k < len(p.Path); k++ {
		t, _ := x.known.At(x.f.Locals[p.Local].Type, p.Path[:k])
		if p.Path[k] == -1 && !strings.HasPrefix(t, "Box<") {
			return false
		}
	}
	return true
}

// listed are the numbers from 0 up to a count that fit.
func listed(count int, fits func(k int) bool) []int {
	var l []int
	for k := range count {
		if fits(k) {
			l = append(l, k)
		}
	}
	return l
}

func (x *model) liveAt(p point) []int {
	return listed(len(x.f.Locals), func(o int) bool { return x.live[p][o] })
}

func (x *model) against(p point) []int {
	return listed(len(x.loans), func(k int) bool { return x.breaks(p, k) })
}

func (x *model) pairs(p point) [][2]int {
	var l [][2]int
	for o := range x.f.Locals {
		for k := range x.loans {
			if x.holds[p][[2]int{o, k}] {
				l = append(l, [2]int{o, k})
			}
		}
	}
	return l
}

func (x *model) alive(p point) []int {
	return listed(len(x.loans), func(k int) bool {
		return slices.ContainsFunc(x.pairs(p), func(pair [2]int) bool { return pair[1] == k })
	})
}

func (x *model) facts() api.Facts {
	var f api.Facts
	for _, p := range x.points {
		if !x.reached[p] {
			continue
		}
		if l, is := x.issued[p]; is {
			f.Issued = append(f.Issued, [4]int{p[0], p[1], x.loans[l].Holder, l})
		}
		for _, q := range x.next[p] {
			f.Edges = append(f.Edges, [4]int{p[0], p[1], q[0], q[1]})
		}
		for a := range x.f.Locals {
			for b := range x.f.Locals {
				if x.subset(p, a, b) {
					f.Subsets = append(f.Subsets, [4]int{p[0], p[1], a, b})
				}
			}
		}
		for l := range x.loans {
			if x.killed(p, l) {
				f.Killed = append(f.Killed, [3]int{p[0], p[1], l})
			}
		}
		for _, o := range x.liveAt(p) {
			f.Live = append(f.Live, [3]int{p[0], p[1], o})
		}
		for _, l := range x.against(p) {
			f.Against = append(f.Against, [3]int{p[0], p[1], l})
		}
	}
	return f
}

// firstError is the first point at which a loan that is alive is invalidated.
func (x *model) firstError() api.Diag {
	for _, p := range x.points {
		for _, l := range x.against(p) {
			if !x.reached[p] || !slices.Contains(x.alive(p), l) {
				continue
			}
			s, is := x.statement(p)
			switch {
			case !is:
				return api.Diag{Code: api.ErrBorrow, From: x.end(p).At, To: x.end(p).Till}
			case s.Kind == api.MSet:
				return api.Diag{Code: api.ErrBorrow, From: s.From, To: s.To}
			}
			return api.Diag{Code: api.ErrGone, From: s.From, To: s.To}
		}
	}
	return api.Diag{}
}
