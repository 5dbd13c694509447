package asm

// sums are numbers in a tree in which both changing one of them and adding up all those ahead of one take few steps (a Fenwick tree): looking at an item asks for two addresses, and each item that grows moves all those behind it.
type sums []int

// add makes the number at a place greater.
func (s sums) add(at, n int) {
	for k := at + 1; k < len(s); k += k & -k {
		s[k] += n
	}
}

// ahead is the sum of all numbers ahead of a place.
func (s sums) ahead(at int) int {
	n := 0
	for k := at; k > 0; k -= k & -k {
		n += s[k]
	}
	return n
}
