package drops

import (
	"iter"
	"slices"

	"patina/api"
	"patina/flow"
	"patina/fresh"
	"patina/lookup"
)

// maker makes the drops of a function definite.
type maker struct {
	known *lookup.Types
	*flow.Flow
	payloads []payload
	at       []flow.Set // what is gone at the beginnings of blocks; nil: no way leads there
}

// payload is a place in an enum's payload, and that enum, by their numbers.
type payload struct {
	place, enum int
}

func newMaker(known *lookup.Types, f api.MFn) *maker {
	d := &maker{known: known, Flow: flow.New(f, enumsIn(f)...)}
	for k, p := range d.Places {
		if enum, is := enumOf(p); is {
			d.payloads = append(d.payloads, payload{k, d.Number(enum)})
		}
	}
	d.at = d.Rounds(func(b int, at flow.Set) flow.Set { return d.whole(d.Behind(b, at)) }, flow.Set.Join)
	return d
}

// enumsIn are the enums of whose payloads a function names places.
func enumsIn(f api.MFn) []api.Place {
	var l []api.Place
	for _, b := range f.Blocks {
		for i := range len(b.Stmts) + 1 {
			for _, d := range flow.DeedsAt(b, i) {
				if enum, is := enumOf(d.Place); is {
					l = append(l, enum)
				}
			}
		}
	}
	return l
}

// enumOf is the outermost enum in whose payload a place is.
func enumOf(p api.Place) (api.Place, bool) {
	k := slices.IndexFunc(p.Path, func(number int) bool { return number < -1 })
	if k < 0 {
		return api.Place{}, false
	}
	return api.Place{Local: p.Local, Path: p.Path[:k]}, true
}

// whole makes enums whole: one of whose payload something is gone goes.
func (d *maker) whole(gone flow.Set) flow.Set {
	for _, p := range d.payloads {
		if gone.Has(p.place) {
			d.Put(gone, p.enum)
		}
	}
	return gone
}

// function is the function with definite drops; false: it is too long.
func (d *maker) function() (api.MFn, bool) {
	f := api.MFn{Name: d.Fn.Name, Params: d.Fn.Params, Locals: slices.Clone(d.Fn.Locals)}
	for b := range d.Fn.Blocks {
		l, fits := d.statements(b)
		if !fits {
			return api.MFn{}, false
		}
		f.Blocks = append(f.Blocks, api.MBlock{Stmts: l, Term: fresh.End(d.Fn.Blocks[b].Term)})
	}
	for edge, drops := range d.edges() {
		if len(drops) > api.MaxNodes || len(f.Blocks) >= api.MaxBlocks {
			return api.MFn{}, false
		}
		f.Blocks = append(f.Blocks, onTheWay(&f.Blocks[edge[0]].Term, edge[1], len(f.Blocks), drops))
	}
	return f, true
}

// onTheWay is a new block, of a number, on the way from an end to a block; the end is changed to lead to it.
func onTheWay(end *api.MTerm, to, number int, drops []drop) api.MBlock {
	for k, block := range end.To {
		if block == to {
			end.To[k] = number
		}
	}
	b := api.MBlock{Term: api.MTerm{Kind: api.TGoto, To: []int{to}, At: end.At, Till: end.Till}}
	for _, d := range drops {
		b.Stmts = append(b.Stmts, d.statement(end.At, end.Till))
	}
	return b
}

// statements are those of a block with definite drops; false: they are too many.
func (d *maker) statements(b int) ([]api.MStmt, bool) {
	var l []api.MStmt
	gone := slices.Clone(d.at[b])
	for i, s := range d.Fn.Blocks[b].Stmts {
		if s.Kind != api.MDrop {
			l = append(l, fresh.Statement(s))
		} else if gone != nil {
			d.thereAt(gone, d.Steps[b][i][0].Place, func(x drop) { l = append(l, x.statement(s.From, s.To)) })
		}
		if len(l) > api.MaxNodes {
			return nil, false
		}
		if gone != nil {
			d.Pass(gone, b, i)
		}
	}
	return l, true
}

// thereAt hands on what drops what is there of a place of the table, where a set is gone.
func (d *maker) thereAt(gone flow.Set, place int, hand func(x drop)) {
	if d.HasAround(gone, place) {
		return
	}
	p := fresh.Place(d.Places[place])
	t, _ := d.known.At(d.Fn.Locals[p.Local].Type, p.Path)
	there(d.known, p, t, d.OutermostIn(gone, place), hand)
}

// edges hands out the edges on which something is dropped, with what drops it: by the block from which they lead, then by the one to which they do.
func (d *maker) edges() iter.Seq2[[2]int, []drop] {
	return func(yield func([2]int, []drop) bool) {
		for from, at := range d.at {
			if at == nil {
				continue
			}
			gone := d.Behind(from, at)
			for _, to := range slices.Sorted(slices.Values(d.Next[from])) {
				if l := d.onEdge(gone, d.at[to]); len(l) > 0 && !yield([2]int{from, to}, l) {
					return
				}
			}
		}
	}
}

// onEdge is what is dropped where a set is gone behind an end, on the way to where another one is.
func (d *maker) onEdge(gone, then flow.Set) []drop {
	var l []drop
	for _, k := range then.Beyond(gone) {
		if !d.HasAround(then, k) {
			d.thereAt(gone, k, func(x drop) { l = append(l, x) })
		}
	}
	return l
}
