package color

import "math/bits"

// register is the number of a register; mark is a place as a number from 0 on: colours first, slots behind them.
type (
	register int
	mark     int
)

// wordBits is how many members one number of a set tells of.
const wordBits = 64

// set is a set of numbers of one kind, from 0 on, so that registers and marks are never taken for each other.
type set[T ~int] struct {
	words []uint64
}

// emptySet has room for so many members.
func emptySet[T ~int](room int) set[T] {
	return set[T]{words: make([]uint64, (room+wordBits-1)/wordBits)}
}

func (s set[T]) put(x T) { s.words[x/wordBits] |= 1 << (x % wordBits) }

// has tells whether a number is in a set; one beyond its room is not.
func (s set[T]) has(x T) bool {
	n := int(x) / wordBits
	return n < len(s.words) && s.words[n]>>(x%wordBits)&1 != 0
}

func (s set[T]) count() int {
	n := 0
	for _, w := range s.words {
		n += bits.OnesCount64(w)
	}
	return n
}

// leastFree is the least number that is not in a set.
func (s set[T]) leastFree() T {
	x := T(0)
	for s.has(x) {
		x++
	}
	return x
}

// each hands on the members, rising.
func (s set[T]) each(look func(T)) {
	for n, w := range s.words {
		for ; w != 0; w &= w - 1 {
			look(T(n*wordBits + bits.TrailingZeros64(w)))
		}
	}
}

// graph has for each number the set of those that it is paired with.
type graph[T ~int] []set[T]

func graphOf[T ~int](count int, pairs [][2]int) graph[T] {
	g := make(graph[T], count)
	for n := range count {
		g[n] = emptySet[T](count)
	}
	for _, p := range pairs {
		g[p[0]].put(T(p[1]))
		g[p[1]].put(T(p[0]))
	}
	return g
}

// degrees are with how many others each one is paired.
func (g graph[T]) degrees() []int {
	l := make([]int, len(g))
	for n := range len(g) {
		l[n] = g[n].count()
	}
	return l
}
