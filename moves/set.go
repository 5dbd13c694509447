package moves

// wordBits is how many places one number of a set tells of.
const wordBits = 64

// set is a set of a function's places, by their numbers: place k is the bit k % wordBits of the number k / wordBits.
type set []uint64

// emptySet has room for so many places.
func emptySet(places int) set { return make(set, (places+wordBits-1)/wordBits) }

func (s set) has(k int) bool { return s[k/wordBits]>>(k%wordBits)&1 != 0 }

// put puts in all from one place up to another.
func (s set) put(from, to int) {
	for k := from; k < to; k++ {
		s[k/wordBits] |= 1 << (k % wordBits)
	}
}

// leave takes out all from one place up to another.
func (s set) leave(from, to int) {
	for k := from; k < to; k++ {
		s[k/wordBits] &^= 1 << (k % wordBits)
	}
}

// hasAny tells whether one from a place up to another is in it.
func (s set) hasAny(from, to int) bool {
	for k := from; k < to; k++ {
		if s.has(k) {
			return true
		}
	}
	return false
}

// join puts in all that another set has, and tells whether that changed anything.
func (s set) join(t set) bool {
	changed := false
	for n := range s {
		changed = changed || t[n]&^s[n] != 0
		s[n] |= t[n]
	}
	return changed
}

// meet takes out all that another set has not, and tells whether that changed anything.
func (s set) meet(t set) bool {
	changed := false
	for n := range s {
		changed = changed || s[n]&^t[n] != 0
		s[n] &= t[n]
	}
	return changed
}
