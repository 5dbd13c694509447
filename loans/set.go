package loans

import (
	"iter"
	"math/bits"
	"slices"
)

// wordBits is how many numbers one word of a set tells of.
const wordBits = 64

// set is a set of numbers of one kind: k is the bit k % wordBits of the word k / wordBits, if there is that word.
type set[K ~int] []uint64

// setOf has one number.
func setOf[K ~int](k K) set[K] {
	var s set[K]
	s.put(k)
	return s
}

func (s set[K]) has(k K) bool {
	return int(k)/wordBits < len(s) && s[k/wordBits]>>(k%wordBits)&1 != 0
}

func (s *set[K]) put(k K) {
	s.grow(int(k)/wordBits + 1)
	(*s)[k/wordBits] |= 1 << (k % wordBits)
}

// grow makes room for so many words.
func (s *set[K]) grow(words int) {
	if words > len(*s) {
		*s = append(*s, make([]uint64, words-len(*s))...)
	}
}

func (s set[K]) leave(k K) {
	if s.has(k) {
		s[k/wordBits] &^= 1 << (k % wordBits)
	}
}

// join puts in all that another set has.
func (s *set[K]) join(t set[K]) {
	s.grow(len(t))
	for n, w := range t {
		(*s)[n] |= w
	}
}

// cut takes out all that another set has.
func (s set[K]) cut(t set[K]) {
	for n := range min(len(s), len(t)) {
		s[n] &^= t[n]
	}
}

// without are those that another set has not, in new memory; nil: there are none.
func (s set[K]) without(t set[K]) set[K] {
	var rest set[K]
	for n, w := range s {
		if n < len(t) {
			w &^= t[n]
		}
		if w != 0 {
			rest.grow(n + 1)
			rest[n] = w
		}
	}
	return rest
}

// meets tells whether another set has one of them.
func (s set[K]) meets(t set[K]) bool {
	for n := range min(len(s), len(t)) {
		if s[n]&t[n] != 0 {
			return true
		}
	}
	return false
}

// all hands out the numbers, rising.
func (s set[K]) all() iter.Seq[K] {
	return func(yield func(K) bool) {
		for n, w := range s {
			for ; w != 0; w &= w - 1 {
				if !yield(K(n*wordBits + bits.TrailingZeros64(w))) {
					return
				}
			}
		}
	}
}

// numbers are all of them, rising, in new memory.
func (s set[K]) numbers() []int {
	var l []int
	for k := range s.all() {
		l = append(l, int(k))
	}
	return l
}

// relation are pairs of numbers of two kinds: of each first one the second ones.
type relation[A, B ~int] map[A]set[B]

// add puts in all pairs of a first number and second ones, and tells which are new, in new memory.
func (r relation[A, B]) add(a A, l set[B]) set[B] {
	fresh := l.without(r[a])
	if fresh != nil {
		joined := r[a]
		joined.join(fresh)
		r[a] = joined
	}
	return fresh
}

// cut takes out all pairs with a second number of a set.
func (r relation[A, B]) cut(l set[B]) {
	for _, of := range r {
		of.cut(l)
	}
}

// copied are the same pairs, in new memory.
func (r relation[A, B]) copied() relation[A, B] {
	c := relation[A, B]{}
	for a, l := range r {
		c[a] = slices.Clone(l)
	}
	return c
}

// firsts are the first numbers, rising.
func (r relation[A, B]) firsts() []A {
	var l []A
	for a := range r {
		l = append(l, a)
	}
	slices.Sort(l)
	return l
}

// seconds are the second numbers.
func (r relation[A, B]) seconds() set[B] {
	var l set[B]
	for _, of := range r {
		l.join(of)
	}
	return l
}

// meets tells whether a set has the second number of a pair.
func (r relation[A, B]) meets(l set[B]) bool {
	for _, of := range r {
		if of.meets(l) {
			return true
		}
	}
	return false
}
