package rt

import "patina/api"

// The heap is cells of as many words as a block may have, and ahead of them a mask for each cell, whose bit w says that the cell's word w is a block's. A block lies in one cell. So where fewer than MaxBlocks are told, a cell is all free, and any block fits in.
const (
	wordSize = 8
	wordBits = 3 // wordSize is 2 to that
	cellBits = 9 // a cell's bytes are 2 to that

	cellSize  = MaxBlock * wordSize
	masksSize = MaxBlocks * wordSize
	cellsSize = MaxBlocks * cellSize

	labelHeap = "rt.heap"
)

// heap has a word more than it needs: a program's own data ahead of it may end anywhere, and blocks stand at multiples of a word.
func (b *builder) heap() *builder {
	return b.begin(labelHeap).space(masksSize + cellsSize + wordSize)
}

// masks brings the address of the first mask into a register.
func (b *builder) masks(rd int) *builder {
	return b.la(rd, labelHeap).with(api.OpAddi, rd, rd, wordSize-1).with(api.OpAndi, rd, rd, -wordSize)
}

// atLeastOne makes a block without words one of a word, so that it has an address of its own.
func (b *builder) atLeastOne(words, spare int) *builder {
	return b.with(api.OpSltiu, spare, words, 1).of(api.OpAdd, words, words, spare)
}

// ones sets as many of a register's lowest bits as a block has words, and clears all others. A shift by less than 64 is one by its lowest six bits, so the distance from 64 is that from 0.
func (b *builder) ones(rd, words, spare int) *builder {
	return b.of(api.OpSub, spare, zero, words).li(rd, -1).of(api.OpSrl, rd, rd, spare)
}

// alloc takes the first words in the first cell that has so many free ones side by side.
func (b *builder) alloc() *builder {
	const (
		spare = 5
		words = value
		mask  = 12 // the address of the mask that is looked at
		end   = 13 // the address behind the last mask
		at    = 14 // the address in the cell
		free  = 15 // bit w: as many words as were looked at are free from the word w on
		left  = 16 // how many of the words are still to be looked at, and one
		half  = 28
		taken = 29 // the bits of the block's words
	)
	return b.begin(labelAlloc).
		li(spare, MaxBlock).
		branch(api.OpBltu, spare, words, ".none").
		atLeastOne(words, spare).
		masks(mask).
		li(end, masksSize).
		of(api.OpAdd, end, end, mask).
		move(at, end).
		label(".cell").
		branch(api.OpBeq, mask, end, ".none").
		load(free, mask).
		with(api.OpXori, free, free, -1).
		move(left, words).
		label(".fold").
		with(api.OpSrli, half, left, 1).
		branch(api.OpBeq, half, zero, ".folded").
		of(api.OpSrl, spare, free, half).
		of(api.OpAnd, free, free, spare).
		of(api.OpSub, left, left, half).
		jump(".fold").
		label(".folded").
		branch(api.OpBne, free, zero, ".found").
		with(api.OpAddi, mask, mask, wordSize).
		with(api.OpAddi, at, at, cellSize).
		jump(".cell").
		label(".found").
		ones(taken, words, spare).
		take(mask, at, free, taken, spare).
		clear(at, words, spare).
		move(value, at).
		back().
		label(".none").
		end(api.ExitHeap)
}

// take goes to the first word from which on all are free, and marks the block's words in the mask.
func (b *builder) take(mask, at, free, taken, spare int) *builder {
	return b.label(".word").
		with(api.OpAndi, spare, free, 1).
		branch(api.OpBne, spare, zero, ".take").
		with(api.OpSrli, free, free, 1).
		with(api.OpSlli, taken, taken, 1).
		with(api.OpAddi, at, at, wordSize).
		jump(".word").
		label(".take").
		load(spare, mask).
		of(api.OpOr, spare, spare, taken).
		store(spare, mask)
}

// clear makes all words of a block 0: it may have been another one.
func (b *builder) clear(at, words, next int) *builder {
	return b.move(next, at).
		label(".clear").
		store(zero, next).
		with(api.OpAddi, next, next, wordSize).
		with(api.OpAddi, words, words, -1).
		branch(api.OpBne, words, zero, ".clear")
}

// free clears the bits of a block's words in its cell's mask. Of numbers that are no block's it changes nothing beyond the masks, whatever they are.
func (b *builder) free() *builder {
	const (
		spare = 5
		from  = value // how many bytes the block is behind the first cell
		words = second
		masks = 12
		mask  = 13
		taken = 14
	)
	return b.begin(labelFree).
		atLeastOne(words, spare).
		masks(masks).
		of(api.OpSub, from, from, masks).
		li(spare, masksSize).
		of(api.OpSub, from, from, spare).
		li(spare, cellsSize).
		branch(api.OpBgeu, from, spare, ".back").
		with(api.OpSrli, mask, from, cellBits).
		with(api.OpSlli, mask, mask, wordBits).
		of(api.OpAdd, mask, mask, masks).
		ones(taken, words, spare).
		with(api.OpSrli, from, from, wordBits).
		of(api.OpSll, taken, taken, from).
		with(api.OpXori, taken, taken, -1).
		load(spare, mask).
		of(api.OpAnd, spare, spare, taken).
		store(spare, mask).
		label(".back").
		li(value, 0).
		back()
}
