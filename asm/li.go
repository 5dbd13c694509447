package asm

import (
	"math/bits"

	"patina/api"
)

// Li are the instructions that load a number.
func Li(rd int, n int64) ([]api.Instr, api.Errno) {
	if !register(rd) {
		return nil, api.ErrArg
	}
	return loading(rd, n), api.OK
}

// loading are the instructions that load a number into a register that is there.
func loading(rd int, n int64) []api.Instr {
	low := n << 52 >> 52 // the number of the lowest 12 bits
	switch n {
	case low:
		return []api.Instr{{Op: api.OpAddi, Rd: rd, Imm: n}}
	case int64(int32(n)):
		return loadingShort(rd, n)
	}
	high := (n - low) >> 12
	zeros := bits.TrailingZeros64(uint64(high))
	l := loading(rd, high>>zeros)
	l = append(l, api.Instr{Op: api.OpSlli, Rd: rd, Rs1: rd, Imm: int64(12 + zeros)})
	if low != 0 {
		l = append(l, api.Instr{Op: api.OpAddi, Rd: rd, Rs1: rd, Imm: low})
	}
	return l
}

// loadingShort are the instructions that load a number of 32 bits.
func loadingShort(rd int, n int64) []api.Instr {
	high := (n + 2048) >> 12
	if high == 1<<19 {
		high -= 1 << 20 // lui has no greater one; addiw goes round to n all the same
	}
	l := []api.Instr{{Op: api.OpLui, Rd: rd, Imm: high}}
	if low := int64(int32(n - high<<12)); low != 0 {
		l = append(l, api.Instr{Op: api.OpAddiw, Rd: rd, Rs1: rd, Imm: low})
	}
	return l
}
