package live

// wordBits is how many registers one number of a set tells of.
const wordBits = 64

// set is a set of registers: register r is the bit r % wordBits of the number r / wordBits.
type set []uint64

// emptySet has room for so many registers.
func emptySet(regs int) set { return make(set, (regs+wordBits-1)/wordBits) }

// emptySets are as many sets, each with room for so many registers.
func emptySets(count, regs int) []set {
	l := make([]set, count)
	for n := range count {
		l[n] = emptySet(regs)
	}
	return l
}

func (s set) has(r int) bool { return s[r/wordBits]>>(r%wordBits)&1 != 0 }

func (s set) put(r int) { s[r/wordBits] |= 1 << (r % wordBits) }

func (s set) drop(r int) { s[r/wordBits] &^= 1 << (r % wordBits) }

// join puts in all that another set has.
func (s set) join(t set) {
	for n := range len(s) {
		s[n] |= t[n]
	}
}

// joinBut puts in all that another set has, but one register.
func (s set) joinBut(t set, r int) {
	had := s.has(r)
	s.join(t)
	if !had {
		s.drop(r)
	}
}

// list are the registers of a set, rising.
func (s set) list() []int {
	var l []int
	for n := range len(s) {
		if s[n] == 0 {
			continue
		}
		for bit := range wordBits {
			if s[n]>>bit&1 != 0 {
				l = append(l, n*wordBits+bit)
			}
		}
	}
	return l
}

// pairs are two unlike registers each, one of which is in the other one's row, the lesser one first, in order. They are counted first, as there may be millions.
func pairs(rows []set) [][2]int {
	l := make([][2]int, 0, countPairs(rows))
	for a := range len(rows) {
		for b := range len(rows) {
			if a < b && paired(rows, a, b) {
				l = append(l, [2]int{a, b})
			}
		}
	}
	return l
}

func countPairs(rows []set) int {
	count := 0
	for b := range len(rows) {
		for a := range b {
			if paired(rows, a, b) {
				count++
			}
		}
	}
	return count
}

func paired(rows []set, a, b int) bool { return rows[a].has(b) || rows[b].has(a) }
