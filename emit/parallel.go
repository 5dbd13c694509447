package emit

import (
	"slices"

	"patina/api"
)

// mostMoves is how many moves may be done at once.
const mostMoves = 64

// Parallel are moves, one behind the other, that do what several do at once, by way of a free place.
func Parallel(from, to []int, free int) ([][2]int, api.Errno) {
	if len(from) > mostMoves || len(to) > mostMoves {
		return nil, api.ErrLong
	}
	if len(from) != len(to) || hasTwice(to) || slices.Contains(from, free) || slices.Contains(to, free) {
		return nil, api.ErrArg
	}
	return ordered(from, to, free), api.OK
}

func hasTwice(l []int) bool {
	for k, x := range l {
		if slices.Contains(l[:k], x) {
			return true
		}
	}
	return false
}

// ordered puts the moves in an order in which none changes what a later one reads. Where all that are left wait for one another, they are rings: one of them is cut open, what is overwritten first being taken from the free place.
func ordered(from, to []int, free int) [][2]int {
	var done, left [][2]int
	for k, x := range to {
		if from[k] != x {
			left = append(left, [2]int{x, from[k]})
		}
	}
	for len(left) > 0 {
		k := slices.IndexFunc(left, func(m [2]int) bool { return !isRead(left, m[0]) })
		if k < 0 {
			k = 0
			cut := left[k][0]
			done = append(done, [2]int{free, cut})
			readInstead(left, cut, free)
		}
		done = append(done, left[k])
		left = slices.Delete(left, k, k+1)
	}
	return done
}

// isRead tells whether one of the moves reads a place.
func isRead(moves [][2]int, place int) bool {
	return slices.ContainsFunc(moves, func(m [2]int) bool { return m[1] == place })
}

// readInstead lets the moves that read one place read another one.
func readInstead(moves [][2]int, place, other int) {
	for k, m := range moves {
		if m[1] == place {
			moves[k][1] = other
		}
	}
}
