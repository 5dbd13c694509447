package asm

import (
	"patina/api"
	"patina/rv"
)

// scratch is the register with which jumps and branches go far: nobody asks what is in it.
const scratch = 6

// labels are all labels with their addresses.
func (l *layout) labels() []api.Label {
	var found []api.Label
	for k := range l.sizes {
		if x, _ := one(l.text, l.data, k); x.Kind == api.ItLabel {
			found = append(found, api.Label{Name: x.Name, Addr: l.address(k)})
		}
	}
	return found
}

// bytes are those of the items from one place on, ahead of another one.
func (l *layout) bytes(from, to int) []byte {
	n := 0
	for _, size := range l.sizes[from:to] {
		n += size
	}
	b := make([]byte, 0, n)
	for k := from; k < to; k++ {
		switch x, _ := one(l.text, l.data, k); x.Kind {
		case api.ItLabel:
		case api.ItWord:
			b = put(b, uint64(x.I.Imm), 8)
		case api.ItSpace:
			b = append(b, make([]byte, x.I.Imm)...)
		case api.ItInstr:
			b = encoded(b, x.I)
		case api.ItLi:
			b = encoded(b, loading(x.I.Rd, x.I.Imm)...)
		default:
			b = encoded(b, going(x, l.sizes[k], l.distance(k))...)
		}
	}
	return b
}

// encoded puts instructions' words behind b.
func encoded(b []byte, l ...api.Instr) []byte {
	for _, i := range l {
		w, _ := rv.Encode(i)
		b = put(b, uint64(w), 4)
	}
	return b
}

// put puts a number's lowest bytes behind b, the lowest one first.
func put(b []byte, v uint64, count int) []byte {
	for range count {
		b = append(b, byte(v))
		v >>= 8
	}
	return b
}

// going are the instructions of an item that asks for a label at a distance which its size reaches.
func going(x api.Item, size int, distance int64) []api.Instr {
	var l []api.Instr
	rd, i := x.I.Rd, x.I
	branch, jump := x.Kind == api.ItBranch, x.Kind == api.ItJump
	switch {
	case branch && size == unit:
		i.Imm = distance
		return []api.Instr{i}
	case x.Kind == api.ItLa:
		return adding(rd, api.Instr{Op: api.OpAddi, Rd: rd}, distance)
	case branch && size == 3*unit:
		l, distance = append(l, turned(i, size)), distance-unit
		fallthrough
	case jump && size == 2*unit:
		rd = scratch
		fallthrough
	case x.Kind == api.ItCall && size == 2*unit:
		return append(l, adding(rd, api.Instr{Op: api.OpJalr, Rd: i.Rd}, distance)...)
	case branch:
		l, distance = append(l, turned(i, size)), distance-unit
		fallthrough
	default:
		return append(l, api.Instr{Op: api.OpJal, Rd: rd, Imm: distance})
	}
}

// adding is auipc of a register, and an instruction that adds what is left of a distance to it.
func adding(rd int, last api.Instr, distance int64) []api.Instr {
	high, low := halves(distance)
	last.Rs1, last.Imm = rd, low
	return []api.Instr{{Op: api.OpAuipc, Rd: rd, Imm: high}, last}
}

// turned is the branch that is taken just if another one is not, over so many bytes from its own place on.
func turned(i api.Instr, over int) api.Instr {
	// Those that are turned about into each other stand side by side, the first with an odd number.
	if i.Op%2 == api.OpBeq%2 {
		i.Op++
	} else {
		i.Op--
	}
	i.Imm = int64(over)
	return i
}
