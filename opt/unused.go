package opt

import (
	"slices"

	"patina/api"
	"patina/flow"
)

// usage is which locals may still be asked for where.
type usage struct {
	*function
	lent  []bool
	next  [][]int
	begin []set // of blocks
}

// set is a set of locals: local k is the bit k % 64 of the number k / 64.
type set []uint64

func (s set) has(k int) bool { return s[k/64]>>(k%64)&1 != 0 }

func (s set) put(k int) { s[k/64] |= 1 << (k % 64) }

func (s set) leave(k int) { s[k/64] &^= 1 << (k % 64) }

// join puts in all that another set has, and tells whether that is more than it had.
func (s set) join(t set) bool {
	more := false
	for n := range s {
		more = more || t[n]&^s[n] != 0
		s[n] |= t[n]
	}
	return more
}

// unused leaves out what nobody asks for: what is set and not used, and where locals begin and end, as far as nobody can tell.
func (f *function) unused() bool {
	u := &usage{function: f, lent: flow.Lent(f.MFn), next: flow.NextOf(f.Blocks), begin: make([]set, len(f.Blocks))}
	for b := range f.Blocks {
		u.begin[b] = u.none()
	}
	order := flow.Order(u.next, 0)
	slices.Reverse(order)
	for changed := true; changed; {
		changed = false
		for _, b := range order {
			s := u.behind(b)
			for _, t := range slices.Backward(f.Blocks[b].Stmts) {
				u.ahead(s, &t)
			}
			changed = u.begin[b].join(s) || changed
		}
	}
	changed := false
	for _, b := range order {
		changed = u.strip(b) || changed
	}
	return changed
}

func (u *usage) none() set { return make(set, (len(u.Locals)+63)/64) }

// behind is what may be asked for behind the last statement of a block.
func (u *usage) behind(b int) set {
	s := u.none()
	for _, to := range u.next[b] {
		s.join(u.begin[to])
	}
	t := &u.Blocks[b].Term
	switch t.Kind {
	case api.TCall:
		u.set(s, t.Place)
	case api.TReturn:
		s.put(0)
	}
	u.use(s, t.Args)
	u.use(s, []api.Operand{t.Arg})
	return s
}

// set goes back over where a place is set. To set a part asks for what is around it.
func (u *usage) set(s set, p api.Place) {
	if isLocal(p) {
		s.leave(p.Local)
	} else {
		s.put(p.Local)
	}
}

// use goes back over operands.
func (u *usage) use(s set, l []api.Operand) {
	for _, o := range l {
		if !isConstant(o) {
			s.put(o.Place.Local)
		}
	}
}

// ahead goes back over a statement. What may be left out asks for nothing.
func (u *usage) ahead(s set, t *api.MStmt) {
	switch {
	case u.isIdle(s, t):
	case t.Kind == api.MSet:
		u.set(s, t.Place)
		u.use(s, t.R.Args)
		if t.R.Kind == api.RRef || t.R.Kind == api.RMut || t.R.Kind == api.RTag {
			s.put(t.R.Place.Local)
		}
	case t.Kind == api.MLive:
		s.leave(t.Place.Local)
	default:
		s.put(t.Place.Local)
	}
}

// isIdle tells whether a statement may be left out, with what may be asked for behind it. (What is behind a reference to a local that has ended is asked for by nobody, or it would be undefined.)
func (u *usage) isIdle(s set, t *api.MStmt) bool {
	switch t.Kind {
	case api.MDead:
		return true
	case api.MLive: // drops, which alone ask whether there is anything, may ask for what stood there before
		return !s.has(t.Place.Local) || !u.known.Owns(u.Locals[t.Place.Local].Type)
	case api.MSet:
		return u.isStill(t) || !u.lent[t.Place.Local] && isDirect(t.Place) && !s.has(t.Place.Local) && u.isSilent(s, &t.R)
	}
	return false
}

// isStill tells whether a statement sets a place to what it has.
func (u *usage) isStill(t *api.MStmt) bool {
	return t.R.Kind == api.RUse && !isConstant(t.R.Args[0]) && samePlace(t.R.Args[0].Place, t.Place)
}

// isSilent tells whether nobody can tell that a value was made that nobody asks for: it does not end the program, and what it takes is not missed.
func (u *usage) isSilent(s set, r *api.Rvalue) bool {
	if r.Kind == api.RNeg || r.Kind == api.RBin && slices.Contains([]string{"+", "-", "*", "/", "%"}, r.Op) {
		return false
	}
	return !slices.ContainsFunc(r.Args, func(o api.Operand) bool {
		return o.Kind == api.OMove && (u.lent[o.Place.Local] || !isDirect(o.Place) || s.has(o.Place.Local))
	})
}

// strip leaves out the statements of a block that may be.
func (u *usage) strip(b int) bool {
	s := u.behind(b)
	l := u.Blocks[b].Stmts
	idle := make([]bool, len(l))
	for k := range slices.Backward(l) {
		idle[k] = u.isIdle(s, &l[k])
		u.ahead(s, &l[k])
	}
	u.Blocks[b].Stmts = without(l, idle)
	return slices.Contains(idle, true)
}

// without are the statements that are not idle, in the same memory.
func without(l []api.MStmt, idle []bool) []api.MStmt {
	kept := l[:0]
	for k, t := range l {
		if !idle[k] {
			kept = append(kept, t)
		}
	}
	return kept
}
