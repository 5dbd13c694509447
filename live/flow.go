package live

import (
	"slices"

	"patina/api"
	"patina/lir"
)

// flow is what is live at the beginning of each block of a function.
type flow struct {
	f     api.LFn
	begin []set
}

// effect is what a block asks for by itself, and what it keeps from those ahead of it: of what is live behind it all that it does not set.
type effect struct {
	uses, sets set
}

// flowOf begins with nothing live and adds what the rules ask for, until they ask for no more: so it is the least.
func flowOf(f api.LFn) flow {
	w := flow{f: f, begin: emptySets(len(f.Blocks), f.Regs)}
	effects := make([]effect, len(f.Blocks))
	for n := range len(f.Blocks) {
		effects[n] = effectOf(f, n)
		w.begin[n].join(effects[n].uses)
	}
	for w.round(effects) {
	}
	return w
}

func effectOf(f api.LFn, block int) effect {
	e := effect{uses: emptySet(f.Regs), sets: emptySet(f.Regs)}
	for _, i := range slices.Backward(f.Blocks[block].Ins) {
		if r := Sets(i); r != none {
			e.sets.put(r)
		}
		e.uses.stepBack(i)
	}
	return e
}

// stepBack makes of what is live behind an instruction what is live ahead of it.
func (s set) stepBack(i api.LIns) {
	if r := Sets(i); r != none {
		s.drop(r)
	}
	for _, r := range Uses(i) {
		s.put(r)
	}
}

// round takes each block once, the last one first, as most ways lead on to later ones; it tells whether anything was added.
func (w flow) round(effects []effect) bool {
	grew := false
	for k := range len(w.begin) {
		n := len(w.begin) - 1 - k
		for _, next := range lir.Next(w.end(n)) {
			if w.begin[n].joinKept(w.begin[next], effects[n].sets) {
				grew = true
			}
		}
	}
	return grew
}

// joinKept puts in all that one set has and another one has not, and tells whether that was anything new.
func (s set) joinKept(t, without set) bool {
	grew := false
	for n := range len(s) {
		more := t[n] &^ without[n] &^ s[n]
		s[n] |= more
		grew = grew || more != 0
	}
	return grew
}

func (w flow) end(block int) api.LIns {
	l := w.f.Blocks[block].Ins
	return l[len(l)-1]
}

// behind is what is live behind a block's end, in a new set.
func (w flow) behind(block int) set {
	s := emptySet(w.f.Regs)
	for _, next := range lir.Next(w.end(block)) {
		s.join(w.begin[next])
	}
	return s
}

// ahead is what is live ahead of a block's instruction, in a new set.
func (w flow) ahead(block, i int) set {
	s := w.behind(block)
	for _, x := range slices.Backward(w.f.Blocks[block].Ins[i:]) {
		s.stepBack(x)
	}
	return s
}

// each hands on every instruction, with what is live behind it: that set is the walk's own, and lasts till the next one.
func (w flow) each(look func(i api.LIns, behind set)) {
	for n := range len(w.begin) {
		s := w.behind(n)
		for _, i := range slices.Backward(w.f.Blocks[n].Ins) {
			look(i, s)
			s.stepBack(i)
		}
	}
}

// clashes has in each register's row others that clash with it; of a pair that clashes at least one is in the other one's row.
func clashes(w flow) []set {
	rows := emptySets(w.f.Regs, w.f.Regs)
	w.each(func(i api.LIns, behind set) {
		switch r := Sets(i); {
		case r == none:
		case i.Op == api.LMove:
			rows[r].joinBut(behind, i.A)
		default:
			rows[r].join(behind)
		}
	})
	for p := range w.f.Params {
		rows[p].join(w.begin[0])
		for q := range w.f.Params {
			rows[p].put(q)
		}
	}
	return rows
}

// moves has in each register's row those that it is set to by a move.
func moves(f api.LFn) []set {
	rows := emptySets(f.Regs, f.Regs)
	for _, b := range f.Blocks {
		for _, i := range b.Ins {
			if i.Op == api.LMove {
				rows[i.D].put(i.A)
			}
		}
	}
	return rows
}

// across are the registers that are live behind a call that does not set them; ahead of it they are live too then.
func across(w flow) set {
	s := emptySet(w.f.Regs)
	w.each(func(i api.LIns, behind set) {
		switch {
		case i.Op != api.LCall:
		case i.D == none:
			s.join(behind)
		default:
			s.joinBut(behind, i.D)
		}
	})
	return s
}
