package moves

import (
	"maps"
	"slices"
	"strings"

	"patina/api"
	"patina/mirtest"
	"patina/types"
)

// point is the statement or the end at a point.
type point struct {
	s     api.MStmt
	t     api.MTerm
	isEnd bool
}

func pointOf(b api.MBlock, i int) point {
	if i < len(b.Stmts) {
		return point{s: b.Stmts[i]}
	}
	return point{t: b.Term, isEnd: true}
}

// operands are all operands, in order.
func (p point) operands() []api.Operand {
	if !p.isEnd {
		return p.s.R.Args
	}
	return append([]api.Operand{p.t.Arg}, p.t.Args...)
}

// lends is the place of a RRef, RMut or RTag.
func (p point) lends() (api.Place, bool) {
	kinds := []int{api.RRef, api.RMut, api.RTag}
	return p.s.R.Place, !p.isEnd && slices.Contains(kinds, p.s.R.Kind)
}

// sets is the place that comes back.
func (p point) sets() (api.Place, bool) {
	if p.isEnd {
		return p.t.Place, p.t.Kind == api.TCall
	}
	return p.s.Place, p.s.Kind == api.MSet
}

// wrong is the first wrong use at a point.
func (p point) wrong(f api.MFn, g mirtest.Gone) api.Errno {
	for _, o := range p.operands() {
		if o.Kind == api.OMove && isOut(f, o.Place) {
			return api.ErrMoveOut
		}
		if (o.Kind == api.OMove || o.Kind == api.OCopy) && g.HasPart(o.Place) {
			return api.ErrMoved
		}
		if o.Kind == api.OMove {
			g = g.With(o.Place)
		}
	}
	if place, is := p.lends(); is && g.HasPart(place) {
		return api.ErrMoved
	}
	if place, is := p.sets(); is && len(place.Path) > 0 && g.Has(api.Place{Local: place.Local, Path: place.Path[:len(place.Path)-1]}) {
		return api.ErrMoved
	}
	if p.isEnd && p.t.Kind == api.TReturn && g.HasPart(api.Place{}) {
		return api.ErrMoved
	}
	return api.OK
}

// isOut tells whether a path has a -1 that follows a reference.
func isOut(f api.MFn, p api.Place) bool {
	ref, _ := types.Ref(f.Locals[p.Local].Type)
	return ref && len(p.Path) > 0 && p.Path[0] == -1 // no other part of a path is a reference's
}

// ways are what is gone on all ways to each block's beginning, each once; false: there are too many to go through.
func ways(f api.MFn) ([]map[string]mirtest.Gone, bool) {
	at := make([]map[string]mirtest.Gone, len(f.Blocks))
	type state struct {
		block int
		g     mirtest.Gone
	}
	list := []state{{0, mirtest.AtFirst(f)}}
	for count := 0; len(list) > 0; count++ {
		if count > 300 {
			return nil, false
		}
		x := list[len(list)-1]
		list = list[:len(list)-1]
		key := mirtest.PlaceTexts(x.g.Outer())
		if _, seen := at[x.block][key]; seen {
			continue
		}
		if at[x.block] == nil {
			at[x.block] = map[string]mirtest.Gone{}
		}
		at[x.block][key] = x.g
		b := f.Blocks[x.block]
		for i := range len(b.Stmts) + 1 {
			x.g = x.g.Behind(b, i)
		}
		for _, to := range b.Term.To {
			list = append(list, state{to, x.g})
		}
	}
	return at, true
}

// maybe and sure are what may be gone, and is surely gone, of ways.
func maybe(l []mirtest.Gone) mirtest.Gone {
	var all mirtest.Gone
	for _, g := range l {
		all = append(all, g...)
	}
	return all.Outer()
}

func sure(l []mirtest.Gone) mirtest.Gone {
	all := slices.DeleteFunc(slices.Concat(l...), func(p api.Place) bool {
		return slices.ContainsFunc(l, func(g mirtest.Gone) bool { return !g.Has(p) })
	})
	return all.Outer()
}

// pointsOf are the ways to each point of a block.
func pointsOf(b api.MBlock, at map[string]mirtest.Gone) [][]mirtest.Gone {
	l := slices.Collect(maps.Values(at))
	points := [][]mirtest.Gone{l}
	for i := range b.Stmts {
		next := make([]mirtest.Gone, len(l))
		for k, g := range points[i] {
			next[k] = g.Behind(b, i)
		}
		points = append(points, next)
	}
	return points
}

// modelCheck is the first wrong use; Code -1: there are too many ways.
func modelCheck(m api.Mir) api.Diag {
	for _, f := range m.Fns {
		at, few := ways(f)
		if !few {
			return api.Diag{Code: -1}
		}
		for k, b := range f.Blocks {
			if at[k] == nil {
				continue
			}
			for i, l := range pointsOf(b, at[k]) {
				p := pointOf(b, i)
				if e := p.wrong(f, maybe(l)); e != api.OK && p.isEnd {
					return api.Diag{Code: e, From: p.t.At, To: p.t.Till}
				} else if e != api.OK {
					return api.Diag{Code: e, From: p.s.From, To: p.s.To}
				}
			}
		}
	}
	return api.Diag{}
}

// uses are the places that a point uses, each with "move " or "use " ahead.
func (p point) uses() string {
	var l []string
	for _, o := range p.operands() {
		switch o.Kind {
		case api.OMove:
			l = append(l, "move "+mirtest.PlaceText(o.Place))
		case api.OCopy:
			l = append(l, "use "+mirtest.PlaceText(o.Place))
		}
	}
	if place, is := p.lends(); is {
		l = append(l, "use "+mirtest.PlaceText(place))
	}
	return strings.Join(l, ", ")
}
