// Package rv is layer 1: RV64IM's instructions as words, and words as instructions (see shared/doc/01-rv.md).
package rv

import (
	"strings"

	"patina/api"
)

// Registers that an ecall uses without naming them: its number is in the one, its argument and answer in the other.
const (
	callNumber = 17
	callValue  = 10
)

// Check tells whether an instruction is right.
func Check(i api.Instr) api.Errno {
	f := formOf(i.Op)
	if f == noForm || !registersRight(f, i) || !numberRight(f, i.Imm) {
		return api.ErrInstr
	}
	return api.OK
}

func registersRight(f byte, i api.Instr) bool {
	rd, rs1, rs2 := registers(f)
	return registerRight(i.Rd, rd) && registerRight(i.Rs1, rs1) && registerRight(i.Rs2, rs2)
}

func registerRight(r int, named bool) bool {
	if !named {
		return r == 0
	}
	return r >= 0 && r <= 31
}

func numberRight(f byte, n int64) bool {
	low, high, step := numbers(f)
	return n >= low && n <= high && n%step == 0
}

// Encode is an instruction's word.
func Encode(i api.Instr) (uint32, api.Errno) {
	if e := Check(i); e != api.OK {
		return 0, e
	}
	// Registers that a form does not name are 0, so that they leave its other bits alone.
	w := uint32(i.Rd)<<7 | uint32(i.Rs1)<<15 | uint32(i.Rs2)<<20
	return fixed[i.Op] | w | spread(formOf(i.Op), uint32(i.Imm)), api.OK
}

// Decode is a word's instruction.
func Decode(w uint32) (api.Instr, api.Errno) {
	first, last := candidates(w)
	for op := first; op <= last; op++ {
		if f := formOf(op); w&mask(f) == fixed[op] {
			return taken(op, f, w), api.OK
		}
	}
	return api.Instr{}, api.ErrWord
}

// taken is the instruction of an operation with the registers and the number that a word has for it.
func taken(op int, f byte, w uint32) api.Instr {
	i := api.Instr{Op: op, Imm: gather(f, w)}
	rd, rs1, rs2 := registers(f)
	if rd {
		i.Rd = int(part(w, 7, 5, 0))
	}
	if rs1 {
		i.Rs1 = int(part(w, 15, 5, 0))
	}
	if rs2 {
		i.Rs2 = int(part(w, 20, 5, 0))
	}
	return i
}

// Name is an operation's name; empty: there is no such operation.
func Name(op int) string {
	if op < 0 || op >= len(names) {
		return ""
	}
	return names[op]
}

// Text is an instruction's text.
func Text(i api.Instr) (string, api.Errno) {
	if e := Check(i); e != api.OK {
		return "", e
	}
	l := operands(i)
	if len(l) == 0 {
		return names[i.Op], api.OK
	}
	return names[i.Op] + " " + strings.Join(l, ","), api.OK
}

// Reads are the registers that an instruction reads, rising.
func Reads(i api.Instr) ([]int, api.Errno) {
	if e := Check(i); e != api.OK {
		return nil, e
	}
	if i.Op == api.OpEcall {
		return []int{callValue, callNumber}, api.OK
	}
	// Those that the form does not name are 0, and so are left out with register 0.
	low, high := min(i.Rs1, i.Rs2), max(i.Rs1, i.Rs2)
	var l []int
	if low > 0 {
		l = append(l, low)
	}
	if high > low {
		l = append(l, high)
	}
	return l, api.OK
}

// Writes is the register that an instruction writes; 0: none.
func Writes(i api.Instr) (int, api.Errno) {
	if e := Check(i); e != api.OK {
		return 0, e
	}
	if i.Op == api.OpEcall {
		return callValue, api.OK
	}
	return i.Rd, api.OK
}
