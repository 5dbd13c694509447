package rt_test

import (
	"bytes"
	"math"
	"math/rand"
	"slices"
	"testing"

	"patina/api"
	"patina/rt"
)

// given is a block that was told and not given back, and what is in each of its bytes.
type given struct {
	at    uint64
	words int
	mark  byte
}

// heap is a bench with the blocks that are told.
type heap struct {
	*bench
	blocks []given
	marks  byte
}

// take asks for a block, which must be told, holds it to what it must be, and writes in it.
func (h *heap) take(words int) {
	h.t.Helper()
	h.use(h.call("rt.alloc", uint64(words)), words)
}

// mayTake is take of a block for which there may be no room: it tells whether there was.
func (h *heap) mayTake(words int) bool {
	h.t.Helper()
	s, came := h.end("rt.alloc", uint64(words))
	if !came && (!s.Halted || s.Code != api.ExitHeap || s.Fault != api.OK) {
		h.t.Fatalf("%d words: halted %v, code %d, fault %v", words, s.Halted, s.Code, s.Fault)
	}
	if came {
		h.use(s.Regs[10], words)
	}
	return came
}

func (h *heap) use(at uint64, words int) {
	h.t.Helper()
	h.wantApart(at, words)
	if b := h.bytes(at, 8*words); slices.ContainsFunc(b, func(v byte) bool { return v != 0 }) {
		h.t.Fatalf("a block of %d words at %x is not all 0", words, at)
	}
	h.marks = h.marks%250 + 1
	b := given{at: at, words: words, mark: h.marks}
	h.write(at, 8*words, b.mark)
	h.blocks = append(h.blocks, b)
}

// wantApart holds an address of so many words to lie in the data at a multiple of 8, and to meet no block.
func (h *heap) wantApart(at uint64, words int) {
	h.t.Helper()
	if at%8 != 0 || !h.isFree(at, 8*words) {
		h.t.Fatalf("%d words at %x, with %d bytes of data", words, at, h.data)
	}
	for _, b := range h.blocks {
		if at < b.at+8*uint64(b.words) && b.at < at+8*uint64(words) {
			h.t.Fatalf("%d words at %x meet %d words at %x", words, at, b.words, b.at)
		}
	}
}

// give gives a block back.
func (h *heap) give(k int) {
	h.t.Helper()
	b := h.blocks[k]
	h.wantMark(b)
	if v := h.call("rt.free", b.at, uint64(b.words)); v != 0 {
		h.t.Fatal("free answers", v)
	}
	h.blocks = slices.Delete(h.blocks, k, k+1)
}

// wantMarks holds all blocks to what was written in them.
func (h *heap) wantMarks() {
	h.t.Helper()
	for _, b := range h.blocks {
		h.wantMark(b)
	}
}

func (h *heap) wantMark(b given) {
	h.t.Helper()
	if !bytes.Equal(h.bytes(b.at, 8*b.words), bytes.Repeat([]byte{b.mark}, 8*b.words)) {
		h.t.Fatalf("what was written in %d words at %x is not there", b.words, b.at)
	}
}

// 10.4: there is room for MaxBlocks of the greatest, of the least, and of none; given back from the first, from the last and in the middle, there is room again.
func TestRoom(t *testing.T) {
	for _, words := range []int{rt.MaxBlock, rt.MaxBlock - 1, 33, 32, 1, 0} {
		h := &heap{bench: onBench(t, "", 0)}
		for range rt.MaxBlocks {
			h.take(words)
		}
		h.wantMarks()
		for _, k := range []int{0, rt.MaxBlocks - 2, 100, 100, 7} {
			h.give(k)
			h.take(rt.MaxBlock)
			h.give(len(h.blocks) - 1)
			h.take(words)
		}
		for len(h.blocks) > 0 {
			h.give(len(h.blocks) / 2)
		}
		for range rt.MaxBlocks {
			h.take(rt.MaxBlock)
		}
		h.wantMarks()
	}
}

// 10.4: blocks of any number of words, told and given back in any order, with as many as MaxBlocks at once.
func TestAnyOrder(t *testing.T) {
	for seed, most := range []int{3, 20, rt.MaxBlocks, rt.MaxBlocks} {
		g := rand.New(rand.NewSource(int64(seed)))
		h := &heap{bench: onBench(t, "", 3*seed)}
		sizes := [][]int{{0, 1, 2, 3}, {1, 31, 32, 33, 63, 64}, {0, 1, 64}, {5, 7, 11, 13, 17, 40, 64}}[seed]
		for n := range 2000 {
			growing := n/300%2 == 0
			switch {
			case len(h.blocks) < most && (len(h.blocks) == 0 || g.Intn(3) > 0 == growing):
				words := sizes[g.Intn(len(sizes))]
				if g.Intn(4) == 0 {
					words = g.Intn(rt.MaxBlock + 1)
				}
				h.take(words)
			default:
				h.give(g.Intn(len(h.blocks)))
			}
		}
		h.wantMarks()
	}
}

// 10.4: small blocks that stand in the places of great ones, all over the heap, leave room for great ones again.
func TestScattered(t *testing.T) {
	g := rand.New(rand.NewSource(5))
	for _, small := range []int{0, 1, 33, 63} {
		h := &heap{bench: onBench(t, "", 5)}
		for range rt.MaxBlocks {
			h.take(rt.MaxBlock)
		}
		for _, words := range []int{small, rt.MaxBlock} {
			for n := range rt.MaxBlocks {
				h.give(g.Intn(rt.MaxBlocks - n)) // new ones stand behind old ones
				h.take(words)
			}
			h.wantMarks()
		}
	}
}

// 10.4: a block that was written in and given back is all 0 when it is told again.
func TestAllNoughtAgain(t *testing.T) {
	h := &heap{bench: onBench(t, "", 0)}
	for words := range rt.MaxBlock + 1 {
		h.take(words)
		h.give(0)
		h.take(rt.MaxBlock)
		h.give(0)
	}
}

// 10: blocks beyond MaxBlocks are told, or the program ends with ExitHeap; none meets another one. Once all are given back, there is all room again.
func TestBeyondRoom(t *testing.T) {
	for _, words := range []int{64, 3, 1, 0} {
		h := &heap{bench: onBench(t, "", 0)}
		for range rt.MaxBlocks - 1 {
			h.take(rt.MaxBlock)
		}
		h.take(words)
		for n := 0; n < 100 && h.mayTake(words); n++ {
		}
		h.wantMarks()
		for len(h.blocks) > 0 {
			h.give(0)
		}
		for range rt.MaxBlocks {
			h.take(rt.MaxBlock)
		}
		h.wantMarks()
	}
	wantRun(t, "without an end", "", api.ExitHeap, "", label("again"), li(10, 64), call("rt.alloc"), jump("again"))
}

// 10: numbers of words that no block has end the program, or tell something in the data; never a fault.
func TestWrongWords(t *testing.T) {
	for _, n := range []int64{65, 66, 128, 1000, 1 << 20, 1<<61 + 1, 1 << 63 >> 3, 1 << 32, math.MaxInt64, math.MaxInt64 - 63, -1, -2, -63, -64, -65, math.MinInt64, math.MinInt64 + 64} {
		b := onBench(t, "", 0)
		s, came := b.end("rt.alloc", uint64(n))
		if !came && (!s.Halted || s.Code != api.ExitHeap || s.Fault != api.OK) {
			t.Error(n, s.Halted, s.Code, s.Fault)
		}
		if came && n > 0 && n < 1<<20 {
			b.bytes(s.Regs[10], 8*int(n))
		}
	}
}

// Numbers that are no block's come to no fault in rt.free either, and change no block.
func TestWrongFree(t *testing.T) {
	h := &heap{bench: onBench(t, "", 0)}
	h.take(3)
	at := h.blocks[0].at
	numbers := []uint64{0, 1, 64, 65, 1 << 32, 1 << 63, math.MaxUint64, at - 8, at + 1, at + 8, at + 1<<17, rt.DataBase, rt.StackBase, rt.TextBase, math.MaxUint64 - 63}
	for _, x := range numbers {
		for _, y := range numbers {
			if v := h.call("rt.free", x, y); v != 0 {
				t.Error(x, y, v)
			}
			h.wantMarks()
		}
	}
}

// 10: rt.free of a block gives just that one back: its neighbours stay as they are and are not told again.
func TestFreeIsOfOne(t *testing.T) {
	for _, words := range []int{1, 2, 7, 31, 64} {
		h := &heap{bench: onBench(t, "", 0)}
		for range 40 {
			h.take(words)
		}
		for k := 39; k >= 0; k -= 2 {
			h.give(k)
		}
		for range 100 {
			h.take(words)
		}
		h.wantMarks()
	}
}
