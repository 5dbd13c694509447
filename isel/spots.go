package isel

import (
	"slices"

	"patina/api"
	"patina/lookup"
	"patina/types"
)

// Kinds of spots.
const (
	inRegisters = iota // from the register that is its base on
	inFrame            // from the frame's word that is its base on
	behind             // from the address on that the register has that is its base
)

// spot is where a value is: its kind and base, and how many words further.
type spot struct {
	kind, base, off int
}

func (s spot) plus(words int) spot {
	s.off += words
	return s
}

// reached is a spot in memory as one behind a register.
func (w *writer) reached(s spot) spot {
	if s.kind != inFrame {
		return s
	}
	d := w.temp()
	w.put(api.LIns{Op: api.LFrame, D: d, N: int64(s.base + s.off)})
	return spot{kind: behind, base: d}
}

// address is a register with the address of a spot in memory.
func (w *writer) address(s spot) int {
	s = w.reached(s)
	if s.off == 0 {
		return s.base
	}
	return w.binary("add", s.base, w.constant(int64(wordSize*s.off)))
}

// read are registers with the words at a spot.
func (w *writer) read(s spot, words int) []int {
	var l []int
	if words > 0 {
		s = w.reached(s)
	}
	for k := range words {
		if s.kind == inRegisters {
			l = append(l, s.base+s.off+k)
		} else {
			l = append(l, w.load(s.base, s.off+k))
		}
	}
	return l
}

// write lets words stand at a spot.
func (w *writer) write(s spot, value []int) {
	if len(value) == 0 {
		return
	}
	if s.kind == inRegisters {
		w.writeRegisters(s.base+s.off, value)
		return
	}
	s = w.reached(s)
	for k, r := range value {
		if r != none {
			w.store(s.base, s.off+k, r)
		}
	}
}

// writeRegisters lets words stand in registers from one on, all at once. One of a word that may be anything becomes 0, since ways on which nothing sets a register would lengthen its life.
func (w *writer) writeRegisters(d int, value []int) {
	value = slices.Clone(value)
	for k := range value {
		if slices.Contains(value[k+1:], d+k) {
			for n := range value {
				value[n] = w.copied(value[n])
			}
			break
		}
	}
	for k, r := range value {
		if r == none {
			w.put(api.LIns{Op: api.LConst, D: d + k})
		} else {
			w.move(d+k, r)
		}
	}
}

// copied is a new register with what another one has.
func (w *writer) copied(r int) int {
	if r == none {
		return none
	}
	d := w.temp()
	w.put(api.LIns{Op: api.LMove, D: d, A: r})
	return d
}

// leaf is a part of a value that owns by itself, a Box or an enum, and its first word.
type leaf struct {
	at int
	of string
}

// leaves are those of a value of a type, in order.
func (p *program) leaves(t string) []leaf {
	if !p.known.Owns(t) {
		return nil
	}
	fields, is := p.known.Fields(t)
	if !is {
		return []leaf{{0, t}}
	}
	var l []leaf
	for k, f := range fields {
		for _, x := range p.leaves(f.Type) {
			l = append(l, leaf{p.known.Offset(t, k) + x.at, x.of})
		}
	}
	return l
}

// forget leaves nothing at a spot of what a value of a type owned there: no address in Boxes, no variant in enums. (All words 0, as a function begins with them, are nothing, too.)
func (w *writer) forget(s spot, t string) {
	for _, l := range w.leaves(t) {
		nothing := int64(0)
		if !lookup.IsBox(l.of) {
			nothing = -1
		}
		w.write(s.plus(l.at), []int{w.constant(nothing)})
	}
}

// place is the spot of a place of MIR, and its type. What addresses lead to may be there just because the program has not ended.
func (w *function) place(p api.Place) (spot, string) {
	if slices.Contains(p.Path, -1) {
		w.look()
	}
	s, t := w.homes[p.Local], w.fn.Locals[p.Local].Type
	for _, step := range p.Path {
		if step == -1 {
			s = spot{kind: behind, base: w.read(s, 1)[0]}
			t, _ = types.Inner(t)
			continue
		}
		part := step
		parts, is := w.known.Fields(t)
		if !is {
			part = -2 - step
			parts, _ = w.known.Variants(t)
		}
		s = s.plus(w.known.Offset(t, part))
		t = parts[part].Type
	}
	return s, t
}
