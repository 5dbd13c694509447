package flow

import "math/bits"

// wordBits is how many places one number of a set tells of.
const wordBits = 64

// Set is a set of a table's places, by their numbers: place k is the bit k % wordBits of the number k / wordBits. It has with each place all that are within it.
type Set []uint64

// emptySet has room for so many places.
func emptySet(places int) Set { return make(Set, (places+wordBits-1)/wordBits) }

// Has tells whether a place is in it.
func (s Set) Has(k int) bool { return s[k/wordBits]>>(k%wordBits)&1 != 0 }

// put puts in all from one place up to another.
func (s Set) put(from, to int) {
	for k := from; k < to; k++ {
		s[k/wordBits] |= 1 << (k % wordBits)
	}
}

// leave takes out all from one place up to another.
func (s Set) leave(from, to int) {
	for k := from; k < to; k++ {
		s[k/wordBits] &^= 1 << (k % wordBits)
	}
}

// hasAny tells whether one from a place up to another is in it.
func (s Set) hasAny(from, to int) bool {
	for k := from; k < to; k++ {
		if s.Has(k) {
			return true
		}
	}
	return false
}

// Join puts in all that another set has, and tells whether that changed anything.
func (s Set) Join(t Set) bool {
	changed := false
	for n := range s {
		changed = changed || t[n]&^s[n] != 0
		s[n] |= t[n]
	}
	return changed
}

// Meet takes out all that another set has not, and tells whether that changed anything.
func (s Set) Meet(t Set) bool {
	changed := false
	for n := range s {
		changed = changed || s[n]&^t[n] != 0
		s[n] &= t[n]
	}
	return changed
}

// Beyond are the places that another set has not, rising.
func (s Set) Beyond(t Set) []int {
	var l []int
	for n := range s {
		for w := s[n] &^ t[n]; w != 0; w &= w - 1 {
			l = append(l, n*wordBits+bits.TrailingZeros64(w))
		}
	}
	return l
}
