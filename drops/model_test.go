package drops

import (
	"slices"

	"patina/api"
	"patina/lookup"
	"patina/mirtest"
	"patina/types"
)

// model is a function as the chapter's words have it, over lists of places.
type model struct {
	it      api.Items
	f       api.MFn
	at      []mirtest.Gone // at the beginnings of blocks
	ends    []mirtest.Gone // behind their ends
	reached []bool
	known   *lookup.Types
}

func modelOf(it api.Items, f api.MFn) *model {
	n := len(f.Blocks)
	x := &model{it, f, make([]mirtest.Gone, n), make([]mirtest.Gone, n), make([]bool, n), lookup.New(it)}
	x.at[0], x.reached[0] = mirtest.AtFirst(f), true
	for again := true; again; {
		again = false
		for b := range f.Blocks {
			x.ends[b] = x.behind(b)
			for _, to := range f.Blocks[b].Term.To {
				if !x.reached[b] {
					continue
				}
				together := enumsWhole(append(slices.Clone(x.at[to]), x.ends[b]...))
				if !x.reached[to] || mirtest.PlaceTexts(together) != mirtest.PlaceTexts(x.at[to].Outer()) {
					x.at[to], x.reached[to], again = together, true, true
				}
			}
		}
	}
	return x
}

// enumsWhole has enums in the place of what is within their payloads.
func enumsWhole(g mirtest.Gone) mirtest.Gone {
	for k, p := range g {
		for n := len(p.Path) - 1; n >= 0; n-- {
			if p.Path[n] < -1 {
				g[k].Path = p.Path[:n]
			}
		}
	}
	return g.Outer()
}

// behind is what is gone behind a block's end.
func (x *model) behind(b int) mirtest.Gone {
	g := x.at[b]
	for i := range len(x.f.Blocks[b].Stmts) + 1 {
		g = g.Behind(x.f.Blocks[b], i)
	}
	return g
}

// there is what drops what is there of a place.
func (x *model) there(p api.Place, g mirtest.Gone) []api.MStmt {
	t, _ := x.known.At(x.f.Locals[p.Local].Type, p.Path)
	parts := g.Parts(p)
	switch {
	case g.Has(p) || !x.known.Owns(t):
		return nil
	case len(parts) == 0:
		return []api.MStmt{{Kind: api.MDrop, Place: p}}
	}
	part := func(number int) []api.MStmt {
		return x.there(api.Place{Local: p.Local, Path: append(slices.Clone(p.Path), number)}, g)
	}
	if _, isBox := types.Inner(t); isBox {
		return append(part(-1), api.MStmt{Kind: api.MFree, Place: p})
	}
	for _, s := range x.it.Structs {
		if s.Name == t {
			var l []api.MStmt
			for k := range s.Fields {
				l = append(l, part(k)...)
			}
			return l
		}
	}
	most := parts[0].Path[len(p.Path)]
	for _, q := range parts {
		most = max(most, q.Path[len(p.Path)])
	}
	return part(most)
}

// onEdge is what is done on an edge.
func (x *model) onEdge(a, b int) []api.MStmt {
	var l []api.MStmt
	for _, p := range x.at[b].Outer() {
		l = append(l, x.there(p, x.ends[a])...)
	}
	return l
}

// edges are those on which something is done.
func (x *model) edges() []api.EdgeDrop {
	var l []api.EdgeDrop
	for a := range x.f.Blocks {
		for b := range x.f.Blocks {
			if !x.reached[a] || !slices.Contains(x.f.Blocks[a].Term.To, b) {
				continue
			}
			e := api.EdgeDrop{From: a, To: b}
			for _, s := range x.onEdge(a, b) {
				e.Places = append(e.Places, s.Place)
			}
			if len(e.Places) > 0 {
				l = append(l, e)
			}
		}
	}
	return l
}

// made is the function with its drops made definite.
func (x *model) made() api.MFn {
	f := x.f
	f.Blocks = nil
	for b, block := range x.f.Blocks {
		c := api.MBlock{Term: block.Term}
		c.Term.To = slices.Clone(block.Term.To)
		g := x.at[b]
		for i, s := range block.Stmts {
			if s.Kind != api.MDrop {
				c.Stmts = append(c.Stmts, s)
			} else if x.reached[b] {
				c.Stmts = append(c.Stmts, standing(x.there(s.Place, g), s.From, s.To)...)
			}
			g = g.Behind(block, i)
		}
		f.Blocks = append(f.Blocks, c)
	}
	for _, e := range x.edges() {
		end := f.Blocks[e.From].Term
		for k := range end.To {
			if x.f.Blocks[e.From].Term.To[k] == e.To {
				end.To[k] = len(f.Blocks)
			}
		}
		f.Blocks = append(f.Blocks, api.MBlock{
			Stmts: standing(x.onEdge(e.From, e.To), end.At, end.Till),
			Term:  api.MTerm{Kind: api.TGoto, To: []int{e.To}, At: end.At, Till: end.Till},
		})
	}
	return f
}

// standing are statements that stand at a place in the source.
func standing(l []api.MStmt, from, to int) []api.MStmt {
	for k := range l {
		l[k].From, l[k].To = from, to
	}
	return l
}
