package loans

import (
	"iter"
	"slices"

	"patina/api"
)

// held is which origins hold which loans.
type held = relation[local, loan]

// rounds are what is held at the beginnings of blocks, and what of that is new since a block was last handed out.
type rounds struct {
	order []int
	at    []held
	fresh []held
	due   []bool // whether a block is to be handed out
}

// heldAtBeginnings brings what is held at the beginnings of blocks to its least: each pair goes its way by itself, so what is new goes on alone.
func (x *function) heldAtBeginnings() []held {
	r := &rounds{x.order, make([]held, len(x.next)), make([]held, len(x.next)), make([]bool, len(x.next))}
	for b := range x.next {
		r.at[b], r.fresh[b], r.due[b] = held{}, held{}, true // each is handed out once, for the loans that it issues
	}
	for b, fresh := range r.all() {
		for _, s := range x.steps[b] {
			x.pass(fresh, s)
		}
		for _, to := range x.next[b] {
			for o, l := range fresh {
				if x.live[to].has(o) {
					r.add(to, o, l)
				}
			}
		}
	}
	return r.at
}

// all hands out blocks, with what is new at their beginnings, until nothing is new.
func (r *rounds) all() iter.Seq2[int, held] {
	return func(yield func(int, held) bool) {
		for slices.Contains(r.due, true) {
			for _, b := range r.order {
				fresh := r.fresh[b]
				if !r.due[b] {
					continue
				}
				r.due[b], r.fresh[b] = false, held{}
				if !yield(b, fresh) {
					return
				}
			}
		}
	}
}

// add lets an origin hold loans at a block's beginning.
func (r *rounds) add(b int, o local, l set[loan]) {
	if fresh := r.at[b].add(o, l); fresh != nil {
		r.fresh[b].add(o, fresh)
		r.due[b] = true
	}
}

// pass changes what is held at a point to what is held behind it, as far as that is live whatever comes behind a block's end.
func (x *function) pass(h held, s step) {
	if s.kills != noLocal && x.lent[s.kills] != nil {
		h.cut(x.lent[s.kills])
	}
	if s.sets != noLocal {
		var l set[loan]
		for _, o := range s.from {
			l.join(h[o])
		}
		if s.issued != noLoan {
			l.put(s.issued)
		}
		h[s.sets] = l
	}
	for _, o := range s.dies {
		delete(h, o)
	}
}

// heldAt is what is held at a point.
func (x *function) heldAt(b, i int) held {
	h := x.heldAtBeginnings()[b].copied()
	for _, s := range x.steps[b][:i] {
		x.pass(h, s)
	}
	return h
}

// firstError is the first point at which a loan that is alive is invalidated.
func (x *function) firstError() api.Diag {
	if len(x.loans) == 0 {
		return api.Diag{}
	}
	at := x.heldAtBeginnings()
	for _, b := range slices.Sorted(slices.Values(x.order[:x.reached])) {
		h := at[b]
		for i, s := range x.steps[b] {
			if h.meets(x.against(b, i)) {
				return diag(x.fn.Blocks[b], i)
			}
			x.pass(h, s)
		}
	}
	return api.Diag{}
}

func diag(b api.MBlock, i int) api.Diag {
	if i == len(b.Stmts) {
		return api.Diag{Code: api.ErrBorrow, From: b.Term.At, To: b.Term.Till}
	}
	s := b.Stmts[i]
	if s.Kind == api.MSet {
		return api.Diag{Code: api.ErrBorrow, From: s.From, To: s.To}
	}
	return api.Diag{Code: api.ErrGone, From: s.From, To: s.To}
}
