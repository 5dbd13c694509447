package isel

import (
	"slices"

	"patina/api"
	"patina/lookup"
	"patina/types"
)

// drop drops what a value of a type owns at a spot. Where it is not sure that it is all there, what is there is asked for.
func (w *writer) drop(s spot, t string, sure bool) {
	for _, l := range w.leaves(t) {
		w.dropLeaf(s.plus(l.at), l.of, sure)
	}
}

func (w *writer) dropLeaf(s spot, of string, sure bool) {
	if lookup.IsBox(of) {
		inner, _ := types.Inner(of)
		w.dropBlock(w.read(s, 1)[0], inner, sure)
		return
	}
	at := w.address(w.inMemory(s, w.known.Words(of)))
	w.help(none, w.helper(toDrop, of, (*writer).dropper), at, w.constant(0))
}

// inMemory is a spot in memory with the words that are at a spot.
func (w *writer) inMemory(s spot, words int) spot {
	if s.kind != inRegisters {
		return s
	}
	area := w.area(0, words)
	w.write(area, w.read(s, words))
	return area
}

// area is a part of the frame that a statement may use, from one of its words on.
func (w *writer) area(at, words int) spot {
	w.f.Frame = max(w.f.Frame, w.areas+at+words)
	return spot{kind: inFrame, base: w.areas + at}
}

// dropBlock drops what is in the block of the heap whose address a register has, and ends it.
func (w *writer) dropBlock(at int, of string, sure bool) {
	depth := 0
	for lookup.IsBox(of) {
		of, _ = types.Inner(of)
		depth++
	}
	if depth > 0 {
		outer := at
		at = w.temp()
		w.help(at, w.helper(toUnbox, "", (*writer).unboxer), outer, w.constant(int64(depth)))
		sure = false
	}
	words := w.constant(int64(w.known.Words(of)))
	switch {
	case w.known.Owns(of):
		w.help(none, w.helper(toDrop, of, (*writer).dropper), at, words)
	case sure:
		w.call("rt.free", at, words)
	default:
		w.help(none, w.helper(toFree, "", (*writer).freer), at, words)
	}
}

// back ends the function at a label.
func (w *writer) back(label int) {
	w.stand(label)
	w.end(api.LIns{Op: api.LRet, A: none})
}

// freer writes the helper that ends the block at an address, if that is not 0, which has so many words.
func (w *writer) freer(_ string, start int) {
	const at, words = 0, 1
	there, back := w.label(), w.label()
	w.stand(start)
	w.branch(at, there, back)
	w.stand(there)
	w.call("rt.free", at, words)
	w.back(back)
}

// unboxer writes the helper that ends so many blocks, from that at an address on, each of which has nothing but the address of the next one, as far as there are any; it answers the address behind the last one.
func (w *writer) unboxer(_ string, start int) {
	const at, depth = 0, 1
	there, one, back := w.label(), w.label(), w.label()
	w.stand(start)
	w.branch(at, there, back)
	w.stand(there)
	w.branch(depth, one, back)
	w.stand(one)
	inner := w.load(at, 0)
	step := w.constant(1)
	w.call("rt.free", at, step)
	w.move(at, inner)
	w.move(depth, w.binary("sub", depth, step))
	w.jump(start)
	w.stand(back)
	w.end(api.LIns{Op: api.LRet, A: at})
}

// dropping is what the parts of a helper that drops share.
type dropping struct {
	*writer
	of                string
	start, done, back int // labels
}

// The registers of a helper that drops: an address (0: there is nothing), and how many words the block has that is there; 0, if what is dropped is not all of a block.
const (
	dropAt    = 0
	dropWords = 1
)

// dropper writes the helper that drops what is at an address, and ends the block.
func (w *writer) dropper(of string, start int) {
	d := &dropping{w, of, start, w.label(), w.label()}
	there, free := w.label(), w.label()
	w.stand(start)
	w.branch(dropAt, there, d.back)
	w.stand(there)
	if _, isEnum := w.known.Variants(of); isEnum {
		d.variants(0, of)
	} else {
		d.part(0, of, true)
	}
	w.stand(d.done)
	w.branch(dropWords, free, d.back)
	w.stand(free)
	w.call("rt.free", dropAt, dropWords)
	w.back(d.back)
}

// variants drops the payload of the variant that is there, of an enum that begins at a word.
func (d *dropping) variants(at int, of string) {
	l, _ := d.known.Variants(of)
	for k, v := range l {
		if !d.known.Owns(v.Type) {
			continue
		}
		d.spare()
		this, other := d.label(), d.label()
		d.branch(d.differs(d.load(dropAt, at), int64(k)), other, this)
		d.stand(this)
		d.part(at+d.known.Offset(of, k), v.Type, false)
		d.jump(d.done)
		d.stand(other)
	}
}

// differs is a register that is 0, if another one has a number.
func (w *writer) differs(r int, n int64) int {
	if n == 0 {
		return r
	}
	return w.binary("xor", r, w.constant(n))
}

// part drops a part of a type, from a word on. A Box in it that holds what the helper itself drops is no call within this one, but what the helper goes on with: so lists may be as long as they like. An enum in all of what is dropped may have such a Box.
func (d *dropping) part(at int, t string, isAll bool) {
	l := d.leaves(t)
	last := lastOf(l, d.holds)
	if last < 0 && isAll {
		last = lastOf(l, d.mayHold)
	}
	for k, x := range l {
		if k != last {
			d.dropLeaf(spot{kind: behind, base: dropAt, off: at + x.at}, x.of, false)
		}
	}
	switch {
	case last < 0:
	case d.holds(l[last]):
		d.goOn(at + l[last].at)
	default:
		d.variants(at+l[last].at, l[last].of)
	}
}

// lastOf is the place of the last leaf that is of a kind; -1: there is none.
func lastOf(l []leaf, is func(x leaf) bool) int {
	for k, x := range slices.Backward(l) {
		if is(x) {
			return k
		}
	}
	return -1
}

// holds tells whether a leaf is a Box of what the helper drops.
func (d *dropping) holds(x leaf) bool {
	inner, isBox := types.Inner(x.of)
	return isBox && inner == d.of
}

// mayHold tells whether a leaf is an enum one of whose variants has such a Box.
func (d *dropping) mayHold(x leaf) bool {
	l, _ := d.known.Variants(x.of)
	return slices.ContainsFunc(l, func(v api.Field) bool { return slices.ContainsFunc(d.leaves(v.Type), d.holds) })
}

// goOn ends the block, and goes on with the one whose address is one of its words.
func (d *dropping) goOn(word int) {
	next := d.load(dropAt, word)
	free, on := d.label(), d.label()
	d.branch(dropWords, free, on)
	d.stand(free)
	d.call("rt.free", dropAt, dropWords)
	d.stand(on)
	d.put(api.LIns{Op: api.LMove, D: dropAt, A: next})
	d.put(api.LIns{Op: api.LConst, D: dropWords, N: int64(d.known.Words(d.of))})
	d.jump(d.start)
}
