package opt

import (
	"slices"

	"patina/api"
	"patina/flow"
	"patina/fresh"
)

// tidy leaves out ways that say nothing, and blocks to which none leads, and makes one block of two that always stand behind one another.
func (f *function) tidy() bool {
	changed := f.hasten()
	ways := f.ways()
	for b := range f.Blocks {
		t := &f.Blocks[b].Term
		changed = f.simplify(t) || changed
		for f.merge(t, ways) {
			f.simplify(t) // so that numbers never lead where all others do
			changed = true
		}
		changed = f.take(t) || changed
	}
	changed = f.join() || changed
	return f.prune() || changed
}

// hasten leads each way to where it ends.
func (f *function) hasten() bool {
	changed := false
	for b := range f.Blocks {
		l := f.Blocks[b].Term.To
		for k, to := range l {
			l[k] = f.end(to)
			changed = changed || l[k] != to
		}
	}
	return changed
}

// end is where a way to a block ends that leads through blocks which only go on to another one; a way that comes to no end ends where it is.
func (f *function) end(b int) int {
	to := b
	for range f.Blocks {
		if !f.isEmpty(to, api.TGoto) {
			return to
		}
		to = f.Blocks[to].Term.To[0]
	}
	return b
}

// isEmpty tells whether a block is an end of a kind alone.
func (f *function) isEmpty(b, kind int) bool {
	return len(f.Blocks[b].Stmts) == 0 && f.Blocks[b].Term.Kind == kind
}

// simplify makes a test that does not choose no test, and leaves out numbers of a switch that lead where all others do.
func (f *function) simplify(t *api.MTerm) bool {
	if t.Kind != api.TIf && t.Kind != api.TSwitch {
		return false
	}
	last := t.To[len(t.To)-1]
	to := api.MTerm{Kind: t.Kind, Arg: t.Arg, At: t.At, Till: t.Till}
	for k, b := range t.To[:len(t.To)-1] {
		if b == last {
			continue
		}
		to.To = append(to.To, b)
		if t.Kind == api.TSwitch {
			to.Values = append(to.Values, t.Values[k])
		}
	}
	if len(to.To) == len(t.To)-1 {
		return false
	}
	if len(to.To) == 0 {
		to.Kind, to.Arg = api.TGoto, api.Operand{}
	}
	to.To = append(to.To, last)
	*t = to
	return true
}

// take takes the end of a block that is all of it, and leads nowhere, in place of the way to it.
func (f *function) take(t *api.MTerm) bool {
	if t.Kind != api.TGoto {
		return false
	}
	if to := t.To[0]; f.isEmpty(to, api.TReturn) || f.isEmpty(to, api.TPanic) {
		*t = fresh.End(f.Blocks[to].Term)
		return true
	}
	return false
}

// merge makes one switch of two by the same operand, where the second one is all of a block to which what the first one has no number for leads, and nothing else does.
func (f *function) merge(t *api.MTerm, ways []int) bool {
	if t.Kind != api.TSwitch {
		return false
	}
	to := t.To[len(t.Values)]
	next := &f.Blocks[to].Term
	if next == t || ways[to] != 1 || !f.isEmpty(to, api.TSwitch) || !sameOperand(next.Arg, t.Arg) {
		return false
	}
	made := api.MTerm{Kind: t.Kind, Arg: t.Arg, At: t.At, Till: t.Till}
	put := func(from *api.MTerm, k int) {
		made.Values = append(made.Values, from.Values[k])
		made.To = append(made.To, from.To[k])
	}
	k := 0
	for i, n := range t.Values {
		for ; k < len(next.Values) && next.Values[k] < n; k++ {
			put(next, k)
		}
		if k < len(next.Values) && next.Values[k] == n { // the first switch has it
			k++
		}
		put(t, i)
	}
	for ; k < len(next.Values); k++ {
		put(next, k)
	}
	made.To = append(made.To, next.To[k])
	*t = made
	f.leave(to)
	return true
}

// ways are how many blocks lead to each one, and to block 0 one more: the call.
func (f *function) ways() []int {
	l := make([]int, len(f.Blocks))
	l[0] = 1
	for _, next := range flow.NextOf(f.Blocks) {
		for _, to := range next {
			l[to]++
		}
	}
	return l
}

// leave lets a block to which nothing leads any longer lead nowhere, so that each block stands in for one other at most.
func (f *function) leave(b int) { f.Blocks[b] = api.MBlock{Term: api.MTerm{Kind: api.TReturn}} }

// join makes one block of two, where the first one only goes on to the second one, and nothing else does.
func (f *function) join() bool {
	changed := false
	ways := f.ways()
	for b := range f.Blocks {
		k := &f.Blocks[b]
		for k.Term.Kind == api.TGoto {
			to := k.Term.To[0]
			if to == b || ways[to] != 1 || len(k.Stmts)+len(f.Blocks[to].Stmts) > api.MaxNodes {
				break
			}
			k.Stmts = append(k.Stmts, f.Blocks[to].Stmts...)
			k.Term = f.Blocks[to].Term
			f.leave(to)
			changed = true
		}
	}
	return changed
}

// prune leaves out the blocks to which no way leads. If block 0 only goes on to another one, that one stands in its place.
func (f *function) prune() bool {
	first := f.end(0)
	reached := flow.Order(flow.NextOf(f.Blocks), first)
	slices.Sort(reached)
	if first == 0 && len(reached) == len(f.Blocks) {
		return false
	}
	numbers := make([]int, len(f.Blocks))
	var l []api.MBlock
	put := func(b int) {
		numbers[b] = len(l)
		l = append(l, f.Blocks[b])
	}
	put(first)
	for _, b := range reached {
		if b != first {
			put(b)
		}
	}
	for b := range l {
		for k, to := range l[b].Term.To {
			l[b].Term.To[k] = numbers[to]
		}
	}
	f.Blocks = l
	return true
}
