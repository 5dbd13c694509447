package loans

import "slices"

// findLive finds the origins that are live at the beginnings of blocks, gone through, the last ones first, until nothing changes; and then what dies where.
func (x *function) findLive() {
	x.live = make([]set[local], len(x.fn.Blocks))
	for changed := true; changed; {
		changed = false
		for _, b := range slices.Backward(x.order) {
			live := x.liveBehind(b)
			for _, s := range slices.Backward(x.steps[b]) {
				s.back(&live)
			}
			if live.without(x.live[b]) != nil {
				x.live[b] = live
				changed = true
			}
		}
	}
	for b := range x.steps {
		x.findDying(b)
	}
}

// liveBehind are the origins that are live behind a block's end, in new memory.
func (x *function) liveBehind(b int) set[local] {
	var live set[local]
	for _, to := range x.next[b] {
		live.join(x.live[to])
	}
	return live
}

// back changes what is live behind a step to what is live at it: its uses come ahead of what it sets.
func (s step) back(live *set[local]) {
	if s.sets != noLocal {
		live.leave(s.sets)
	}
	for _, o := range s.uses {
		live.put(o)
	}
}

// findDying finds what dies at each point of a block but its end, behind which what is live hangs on the way.
func (x *function) findDying(b int) {
	live := x.liveBehind(b)
	for i := len(x.steps[b]) - 1; i >= 0; i-- {
		s := &x.steps[b][i]
		if i < len(x.steps[b])-1 {
			s.dies = slices.DeleteFunc(s.touched(), live.has)
		}
		s.back(&live)
	}
}

// touched are the origins that a step uses or sets, in new memory.
func (s step) touched() []local {
	l := slices.Clone(s.uses)
	if s.sets != noLocal {
		l = append(l, s.sets)
	}
	return l
}

// liveAt are the origins that are live at each point of a block.
func (x *function) liveAt(b int) []set[local] {
	l := make([]set[local], len(x.steps[b]))
	live := x.liveBehind(b)
	for i, s := range slices.Backward(x.steps[b]) {
		s.back(&live)
		l[i] = slices.Clone(live)
	}
	return l
}
