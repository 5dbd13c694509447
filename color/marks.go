package color

// unmarked is the mark of a register that has no place yet.
const unmarked = mark(-1)

// marks are the registers' marks.
type marks []mark

func noMarks(regs int) marks {
	l := make(marks, regs)
	for r := range regs {
		l[r] = unmarked
	}
	return l
}

// taken are the marks that registers of a set have. There is room for them: a register has fewer others beside it than there are registers, so the least mark that is free for it is below their count.
func (m marks) taken(by set[register]) set[mark] {
	s := emptySet[mark](len(m))
	by.each(func(r register) {
		if m[r] != unmarked {
			s.put(m[r])
		}
	})
	return s
}

// places are the marks as colours below k, and slots above.
func (m marks) places(k int) []int {
	l := make([]int, len(m))
	for r, x := range m {
		l[r] = int(x)
		if l[r] >= k {
			l[r] = k - 1 - l[r]
		}
	}
	return l
}

// greedy marks the registers from 0 on: colours are the least marks, so the least that is free is a slot just if no colour is.
func greedy(g graph[register]) marks {
	m := noMarks(len(g))
	for r := range len(g) {
		m[r] = m.taken(g[r]).leastFree()
	}
	return m
}

// byTakingOff marks the registers in the order in which they come back: one that had fewer than k others beside it when it was taken off finds a colour.
func byTakingOff(g, joins graph[register], k int) marks {
	m := noMarks(len(g))
	off := takeOff(g, k)
	for range len(g) {
		end := len(off) - 1
		r := off[end]
		off = off[:end:end]
		m[r] = m.choice(g[r], joins[r], k)
	}
	return m
}

// choice is a register's mark: that of one that a move joins to it, if it is free and not a slot where a colour is; else the least that is free.
func (m marks) choice(clash, joined set[register], k int) mark {
	taken := m.taken(clash)
	best := taken.leastFree()
	found := false
	joined.each(func(r register) {
		x := m[r]
		if !found && x != unmarked && !taken.has(x) && (int(x) < k || int(best) >= k) {
			best, found = x, true
		}
	})
	return best
}

// takeOff takes the registers off their graph, one behind the other, and tells them in that order.
func takeOff(g graph[register], k int) []register {
	beside := g.degrees()
	gone := make([]bool, len(g))
	off := make([]register, 0, len(g))
	for range len(g) {
		r := nextOff(beside, gone, k)
		gone[r] = true
		off = append(off, r)
		g[r].each(func(x register) { beside[x]-- })
	}
	return off
}

// nextOff is the register with the fewest others beside it; where even that has k or more, the one with the most, as without it most others have fewer.
func nextOff(beside []int, gone []bool, k int) register {
	few, many := -1, -1
	for r, n := range beside {
		if gone[r] {
			continue
		}
		if few < 0 || n < beside[few] {
			few = r
		}
		if many < 0 || n > beside[many] {
			many = r
		}
	}
	if beside[few] < k {
		return register(few)
	}
	return register(many)
}
