package lir

import (
	"slices"
	"sort"
)

// first is the address of the first frame, and wordSize is by how much addresses of words are apart.
const (
	first    = 65536
	wordSize = 8
)

// Kinds of parts of memory.
const (
	partEnded = iota
	partFrame
	partBlock
)

// part is a frame or a block; one that has ended has no words.
type part struct {
	kind  int
	at    int64
	words []int64
}

// memory has all frames and blocks that have not ended.
type memory struct {
	parts []part // by address, rising; ended ones among them
	ended int    // how many of them have
	next  int64  // the address of the next one
}

// begin makes a frame or a block of words, all 0: its address.
func (m *memory) begin(kind, count int) int64 {
	at := m.next
	m.next += wordSize * int64(count+1)
	m.parts = append(m.parts, part{kind: kind, at: at, words: make([]int64, count)})
	return at
}

// end ends the frame or block that has an address and so many words; false: there is none.
func (m *memory) end(kind int, at, count int64) bool {
	k := m.find(at)
	if k < 0 {
		return false
	}
	p := m.parts[k]
	if p.kind != kind || p.at != at || int64(len(p.words)) != count {
		return false
	}
	m.parts[k] = part{at: at}
	m.ended++
	m.tidy()
	return true
}

// tidy lets ended parts go, once they are half of all: each end by itself would move all those behind it.
func (m *memory) tidy() {
	if 2*m.ended < len(m.parts) {
		return
	}
	m.parts = slices.DeleteFunc(m.parts, func(p part) bool { return p.kind == partEnded })
	m.ended = 0
}

// find is the place among the parts of the last one that begins at an address or ahead of it; -1: none does.
func (m *memory) find(at int64) int {
	return sort.Search(len(m.parts), func(k int) bool { return m.parts[k].at > at }) - 1
}

// word is the word at an address; nil: it is not there.
func (m *memory) word(at int64) *int64 {
	k := m.find(at)
	if k < 0 || at%wordSize != 0 {
		return nil
	}
	p := m.parts[k]
	n := (at - p.at) / wordSize
	if n >= int64(len(p.words)) {
		return nil
	}
	return &p.words[n]
}
