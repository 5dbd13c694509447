package rv

import (
	"strconv"

	"patina/api"
)

// Forms of instructions. L, of loads and jalr, is I with another text; W, of shifts of 32 bits, is H with a shorter number.
const (
	noForm     byte = 0
	formU      byte = 'U'
	formJ      byte = 'J'
	formI      byte = 'I'
	formLoad   byte = 'L'
	formShift  byte = 'H'
	formShiftW byte = 'W'
	formS      byte = 'S'
	formB      byte = 'B'
	formR      byte = 'R'
	formN      byte = 'N'
)

// forms has each operation's form, from OpLui on: a line for each line of the chapter's table.
const forms = "UU" +
	"J" +
	"L" +
	"BBBBBB" +
	"LLLLLLL" +
	"SSSS" +
	"IIIIII" +
	"HHH" +
	"I" +
	"WWW" +
	"RRRRRRRRRR" +
	"RRRRR" +
	"RRRRRRRR" +
	"RRRRR" +
	"N" +
	"NN"

// formOf is an operation's form.
func formOf(op int) byte {
	if op < api.OpLui || op > api.OpEbreak {
		return noForm
	}
	return forms[op-api.OpLui]
}

// registers tells which registers a form names.
func registers(f byte) (rd, rs1, rs2 bool) {
	switch f {
	case formR:
		rs2 = true
		fallthrough
	case formI, formLoad, formShift, formShiftW:
		rs1 = true
		fallthrough
	case formU, formJ:
		rd = true
	case formS, formB:
		rs1, rs2 = true, true
	}
	return rd, rs1, rs2
}

// numbers are the least and the greatest number of a form, and what it must be a multiple of.
func numbers(f byte) (low, high, step int64) {
	switch f {
	case formU:
		return -1 << 19, 1<<19 - 1, 1
	case formJ:
		return -1 << 20, 1<<20 - 2, 2
	case formI, formLoad, formS:
		return -1 << 11, 1<<11 - 1, 1
	case formB:
		return -1 << 12, 1<<12 - 2, 2
	case formShift:
		return 0, 63, 1
	case formShiftW:
		return 0, 31, 1
	}
	return 0, 0, 1
}

// mask has the bits of a form's words by which its operations are told apart.
func mask(f byte) uint32 {
	switch f {
	case formU, formJ:
		return 0x0000007f
	case formI, formLoad, formS, formB:
		return 0x0000707f
	case formShift:
		return 0xfc00707f
	case formShiftW, formR:
		return 0xfe00707f
	}
	return 0xffffffff
}

// part is count bits of n, from the bit low on, moved to the bit at.
func part(n uint32, low, count, at uint) uint32 {
	return n >> low & (1<<count - 1) << at
}

// spread are the bits of a right number where a form has them.
func spread(f byte, n uint32) uint32 {
	switch f {
	case formU:
		return n << 12
	case formJ:
		return part(n, 12, 8, 12) | part(n, 11, 1, 20) | part(n, 1, 10, 21) | part(n, 20, 1, 31)
	case formI, formLoad, formShift, formShiftW:
		return n << 20
	case formB:
		// With bit 11 in the place of bit 0, which is 0, and bit 12 in that of bit 11, all of it stands as S has it.
		n = part(n, 1, 10, 1) | part(n, 11, 1, 0) | part(n, 12, 1, 11)
		fallthrough
	case formS:
		return part(n, 0, 5, 7) | part(n, 5, 7, 25)
	}
	return 0
}

// gather is the number whose bits a word of a form has.
func gather(f byte, w uint32) int64 {
	switch f {
	case formU:
		return signed(part(w, 12, 20, 0), 20)
	case formJ:
		return signed(part(w, 12, 8, 12)|part(w, 20, 1, 11)|part(w, 21, 10, 1)|part(w, 31, 1, 20), 21)
	case formI, formLoad:
		return signed(part(w, 20, 12, 0), 12)
	case formShift:
		return int64(part(w, 20, 6, 0))
	case formShiftW:
		return int64(part(w, 20, 5, 0))
	case formS:
		return signed(part(w, 7, 5, 0)|part(w, 25, 7, 5), 12)
	case formB:
		return signed(part(w, 8, 4, 1)|part(w, 25, 6, 5)|part(w, 7, 1, 11)|part(w, 31, 1, 12), 13)
	}
	return 0
}

// signed is what the lowest bits of n, so many, say with their sign.
func signed(n uint32, bits uint) int64 {
	return int64(int32(n<<(32-bits)) >> (32 - bits))
}

// operands are what stands behind the name in the text of a right instruction.
func operands(i api.Instr) []string {
	rd, rs1, rs2 := register(i.Rd), register(i.Rs1), register(i.Rs2)
	n := strconv.FormatInt(i.Imm, 10)
	switch formOf(i.Op) {
	case formU, formJ:
		return []string{rd, n}
	case formI, formShift, formShiftW:
		return []string{rd, rs1, n}
	case formLoad:
		return []string{rd, n + "(" + rs1 + ")"}
	case formS:
		return []string{rs2, n + "(" + rs1 + ")"}
	case formB:
		return []string{rs1, rs2, n}
	case formR:
		return []string{rd, rs1, rs2}
	}
	return nil
}

func register(r int) string { return "x" + strconv.Itoa(r) }
