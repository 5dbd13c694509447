package moves

import (
	"cmp"
	"maps"
	"slices"
	"strings"

	"patina/api"
	"patina/types"
)

// gone is what is gone on one way: places, none within another one.
type gone []api.Place

func isWithin(p, q api.Place) bool {
	for k, n := range q.Path {
		if k >= len(p.Path) || p.Path[k] != n {
			return false
		}
	}
	return p.Local == q.Local
}

// has tells whether a place is gone.
func (g gone) has(p api.Place) bool {
	return slices.ContainsFunc(g, func(q api.Place) bool { return isWithin(p, q) })
}

func (g gone) hasPart(p api.Place) bool {
	return slices.ContainsFunc(g, func(q api.Place) bool { return isWithin(q, p) })
}

// without are all but those that are within a place.
func (g gone) without(p api.Place) gone {
	return slices.DeleteFunc(slices.Clone(g), func(q api.Place) bool { return isWithin(q, p) })
}

func (g gone) with(p api.Place) gone {
	if g.has(p) {
		return g
	}
	return append(g.without(p), p)
}

func (g gone) sorted() gone {
	return slices.SortedFunc(slices.Values(g), func(a, b api.Place) int {
		if a.Local != b.Local {
			return cmp.Compare(a.Local, b.Local)
		}
		return slices.Compare(a.Path, b.Path)
	})
}

// outer are those that are within no other one, each once.
func (g gone) outer() gone {
	all := map[string]api.Place{}
	for _, p := range g {
		all[placeTexts([]api.Place{p})] = p
	}
	var l gone
	for _, p := range all {
		isOuter := true
		for k := range p.Path {
			_, there := all[placeTexts([]api.Place{{Local: p.Local, Path: p.Path[:k]}})]
			isOuter = isOuter && !there
		}
		if isOuter {
			l = append(l, p)
		}
	}
	return l.sorted()
}

// point is the statement or the end at a point.
type point struct {
	s     api.MStmt
	t     api.MTerm
	isEnd bool
}

func pointOf(b api.MBlock, i int) point {
	if i < len(b.Stmts) {
		return point{s: b.Stmts[i]}
	}
	return point{t: b.Term, isEnd: true}
}

// operands are all operands, in order.
func (p point) operands() []api.Operand {
	if !p.isEnd {
		return p.s.R.Args
	}
	return append([]api.Operand{p.t.Arg}, p.t.Args...)
}

// lends is the place of a RRef, RMut or RTag.
func (p point) lends() (api.Place, bool) {
	kinds := []int{api.RRef, api.RMut, api.RTag}
	return p.s.R.Place, !p.isEnd && slices.Contains(kinds, p.s.R.Kind)
}

// sets is the place that comes back.
func (p point) sets() (api.Place, bool) {
	if p.isEnd {
		return p.t.Place, p.t.Kind == api.TCall
	}
	return p.s.Place, p.s.Kind == api.MSet
}

// behind is what is gone behind a point.
func (p point) behind(g gone) gone {
	for _, o := range p.operands() {
		if o.Kind == api.OMove {
			g = g.with(o.Place)
		}
	}
	if place, is := p.sets(); is {
		g = g.without(place)
	} else if !p.isEnd {
		g = g.with(p.s.Place)
	}
	return g
}

// wrong is the first wrong use at a point.
func (p point) wrong(f api.MFn, g gone) api.Errno {
	for _, o := range p.operands() {
		if o.Kind == api.OMove && isOut(f, o.Place) {
			return api.ErrMoveOut
		}
		if (o.Kind == api.OMove || o.Kind == api.OCopy) && (g.has(o.Place) || g.hasPart(o.Place)) {
			return api.ErrMoved
		}
		if o.Kind == api.OMove {
			g = g.with(o.Place)
		}
	}
	if place, is := p.lends(); is && (g.has(place) || g.hasPart(place)) {
		return api.ErrMoved
	}
	if place, is := p.sets(); is && len(place.Path) > 0 && g.has(api.Place{Local: place.Local, Path: place.Path[:len(place.Path)-1]}) {
		return api.ErrMoved
	}
	if p.isEnd && p.t.Kind == api.TReturn && (g.has(api.Place{}) || g.hasPart(api.Place{})) {
		return api.ErrMoved
	}
	return api.OK
}

// isOut tells whether a path has a -1 that follows a reference.
func isOut(f api.MFn, p api.Place) bool {
	ref, _ := types.Ref(f.Locals[p.Local].Type)
	return ref && len(p.Path) > 0 && p.Path[0] == -1 // no other part of a path is a reference's
}

// ways are what is gone on all ways to each block's beginning, each once; false: there are too many to go through.
func ways(f api.MFn) ([]map[string]gone, bool) {
	at := make([]map[string]gone, len(f.Blocks))
	var first gone
	for k := range f.Locals {
		if k == 0 || k > f.Params {
			first = append(first, api.Place{Local: k})
		}
	}
	type state struct {
		block int
		g     gone
	}
	list := []state{{0, first}}
	for count := 0; len(list) > 0; count++ {
		if count > 300 {
			return nil, false
		}
		x := list[len(list)-1]
		list = list[:len(list)-1]
		key := placeTexts(x.g.sorted())
		if _, seen := at[x.block][key]; seen {
			continue
		}
		if at[x.block] == nil {
			at[x.block] = map[string]gone{}
		}
		at[x.block][key] = x.g
		b := f.Blocks[x.block]
		for i := range len(b.Stmts) + 1 {
			x.g = pointOf(b, i).behind(x.g)
		}
		for _, to := range b.Term.To {
			list = append(list, state{to, x.g})
		}
	}
	return at, true
}

// maybe and sure are what may be gone, and is surely gone, of ways.
func maybe(l []gone) gone {
	var all gone
	for _, g := range l {
		all = append(all, g...)
	}
	return all.outer()
}

func sure(l []gone) gone {
	all := slices.DeleteFunc(slices.Concat(l...), func(p api.Place) bool {
		return slices.ContainsFunc(l, func(g gone) bool { return !g.has(p) })
	})
	return all.outer()
}

// pointsOf are the ways to each point of a block.
func pointsOf(b api.MBlock, at map[string]gone) [][]gone {
	l := slices.Collect(maps.Values(at))
	points := [][]gone{l}
	for i := range b.Stmts {
		next := make([]gone, len(l))
		for k, g := range points[i] {
			next[k] = pointOf(b, i).behind(g)
		}
		points = append(points, next)
	}
	return points
}

// modelCheck is the first wrong use; Code -1: there are too many ways.
func modelCheck(m api.Mir) api.Diag {
	for _, f := range m.Fns {
		at, few := ways(f)
		if !few {
			return api.Diag{Code: -1}
		}
		for k, b := range f.Blocks {
			if at[k] == nil {
				continue
			}
			for i, l := range pointsOf(b, at[k]) {
				p := pointOf(b, i)
				if e := p.wrong(f, maybe(l)); e != api.OK && p.isEnd {
					return api.Diag{Code: e, From: p.t.At, To: p.t.Till}
				} else if e != api.OK {
					return api.Diag{Code: e, From: p.s.From, To: p.s.To}
				}
			}
		}
	}
	return api.Diag{}
}

// uses are the places that a point uses, each with "move " or "use " ahead.
func (p point) uses() string {
	var l []string
	for _, o := range p.operands() {
		switch o.Kind {
		case api.OMove:
			l = append(l, "move "+placeTexts([]api.Place{o.Place}))
		case api.OCopy:
			l = append(l, "use "+placeTexts([]api.Place{o.Place}))
		}
	}
	if place, is := p.lends(); is {
		l = append(l, "use "+placeTexts([]api.Place{place}))
	}
	return strings.Join(l, ", ")
}
