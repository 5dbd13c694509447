package loans

import (
	"iter"
	"slices"

	"patina/api"
	"patina/flow"
)

// held is which origins hold which loans.
type held = relation[local, loan]

// rounds are what is held at the beginnings of blocks, and what of that is new: of each origin, block by block, since that block was last handed out for it.
type rounds struct {
	blocks  []int
	origins []local
	at      []held
	fresh   map[local][]set[loan]
}

// heldAtBeginnings brings what is held at the beginnings of blocks to its least: each pair goes its way by itself, so what is new goes on alone.
func (x *function) heldAtBeginnings() []held {
	r := &rounds{x.order, x.originsInOrder(), make([]held, len(x.next)), map[local][]set[loan]{}}
	for b := range r.at {
		r.at[b] = held{}
	}
	for b := range r.at {
		x.goOn(r, b, held{}) // for the loans that it issues
	}
	for at, fresh := range r.all() {
		x.goOn(r, at.block, held{at.origin: fresh})
	}
	return r.at
}

// goOn lets what is new at a block's beginning go on to the blocks behind it.
func (x *function) goOn(r *rounds, b int, fresh held) {
	for _, s := range x.steps[b] {
		x.pass(fresh, s)
	}
	for _, to := range x.next[b] {
		for o, l := range fresh {
			if x.live[to].has(o) {
				r.add(to, o, l)
			}
		}
	}
}

// originsInOrder are the origins, each behind those out of which its loans come, but for rings.
func (x *function) originsInOrder() []local {
	to := make([][]int, len(x.fn.Locals))
	var all []int
	for _, steps := range x.steps {
		for _, s := range steps {
			for _, o := range s.from {
				to[o] = append(to[o], int(s.sets))
			}
		}
	}
	for l := range x.fn.Locals {
		if x.isOrigin(l) {
			all = append(all, l)
		}
	}
	var l []local
	for _, o := range flow.Order(to, all...) {
		l = append(l, local(o))
	}
	return l
}

// beginning is an origin at a block's beginning.
type beginning struct {
	origin local
	block  int
}

// all hands out origins and blocks, with the loans that are new there, until nothing is new: one origin in all blocks ahead of the next one, since what it gets in a ring goes on to others together.
func (r *rounds) all() iter.Seq2[beginning, set[loan]] {
	return func(yield func(beginning, set[loan]) bool) {
		for len(r.fresh) > 0 {
			for _, o := range r.origins {
				if !r.allOf(o, yield) {
					return
				}
			}
		}
	}
}

// allOf hands out what is new of one origin, until nothing of it is.
func (r *rounds) allOf(o local, yield func(beginning, set[loan]) bool) bool {
	fresh := r.fresh[o]
	for again := fresh != nil; again; {
		again = false
		for _, b := range r.blocks {
			l := fresh[b]
			if l == nil {
				continue
			}
			fresh[b], again = nil, true
			if !yield(beginning{o, b}, l) {
				return false
			}
		}
	}
	delete(r.fresh, o)
	return true
}

// add lets an origin hold loans at a block's beginning.
func (r *rounds) add(b int, o local, l set[loan]) {
	fresh := r.at[b].add(o, l)
	if fresh == nil {
		return
	}
	if r.fresh[o] == nil {
		r.fresh[o] = make([]set[loan], len(r.at))
	}
	r.fresh[o][b].join(fresh)
}

// pass changes what is held at a point to what is held behind it, as far as that is live whatever comes behind a block's end.
func (x *function) pass(h held, s step) {
	if s.kills != noLocal && x.lent[s.kills] != nil {
		h.cut(x.lent[s.kills])
	}
	if s.sets != noLocal {
		var l set[loan]
		for _, o := range s.from {
			l.join(h[o])
		}
		if s.issued != noLoan {
			l.put(s.issued)
		}
		h[s.sets] = l
	}
	for _, o := range s.dies {
		delete(h, o)
	}
}

// heldAt is what is held at a point.
func (x *function) heldAt(b, i int) held {
	h := x.heldAtBeginnings()[b].copied()
	for _, s := range x.steps[b][:i] {
		x.pass(h, s)
	}
	return h
}

// firstError is the first point at which a loan that is alive is invalidated.
func (x *function) firstError() api.Diag {
	if len(x.loans) == 0 {
		return api.Diag{}
	}
	at := x.heldAtBeginnings()
	for _, b := range slices.Sorted(slices.Values(x.order[:x.reached])) {
		h := at[b]
		for i, s := range x.steps[b] {
			if h.meets(x.against(b, i)) {
				return flow.DiagAt(errorAt(x.fn.Blocks[b], i), x.fn.Blocks[b], i)
			}
			x.pass(h, s)
		}
	}
	return api.Diag{}
}

// errorAt is what is wrong where a loan that is alive is invalidated at a point.
func errorAt(b api.MBlock, i int) api.Errno {
	if i < len(b.Stmts) && b.Stmts[i].Kind != api.MSet {
		return api.ErrGone
	}
	return api.ErrBorrow
}
