package cpu

import (
	"math"
	"math/bits"

	"patina/api"
)

// Alu is what an operation of two numbers makes.
func Alu(op int, a, b uint64) (uint64, api.Errno) {
	if op < api.OpAddi || op > api.OpRemuw {
		return 0, api.ErrArg
	}
	v, narrow := sum(op, a, b)
	if narrow {
		v = signed(v)
	}
	return v, api.OK
}

// sum is what sums, shifts, comparisons and operations of bits make, and whether its lowest 32 bits alone are meant; product does the rest.
func sum(op int, a, b uint64) (v uint64, narrow bool) {
	switch op {
	case api.OpAddiw, api.OpAddw:
		narrow = true
		fallthrough
	case api.OpAddi, api.OpAdd:
		v = a + b
	case api.OpSubw:
		narrow = true
		fallthrough
	case api.OpSub:
		v = a - b
	case api.OpSlliw, api.OpSllw:
		narrow, b = true, b%32
		fallthrough
	case api.OpSlli, api.OpSll:
		v = a << (b % 64)
	case api.OpSrliw, api.OpSrlw:
		narrow, a, b = true, unsigned(a), b%32
		fallthrough
	case api.OpSrli, api.OpSrl:
		v = a >> (b % 64)
	case api.OpSraiw, api.OpSraw:
		narrow, a, b = true, signed(a), b%32
		fallthrough
	case api.OpSrai, api.OpSra:
		v = uint64(int64(a) >> (b % 64))
	case api.OpSlti, api.OpSlt:
		v = truth(int64(a) < int64(b))
	case api.OpSltiu, api.OpSltu:
		v = truth(a < b)
	case api.OpXori, api.OpXor:
		v = a ^ b
	case api.OpOri, api.OpOr:
		v = a | b
	case api.OpAndi, api.OpAnd:
		v = a & b
	default:
		return product(op, a, b)
	}
	return v, narrow
}

// product is what products, quotients and remainders make, and whether its lowest 32 bits alone are meant.
func product(op int, a, b uint64) (v uint64, narrow bool) {
	switch op {
	case api.OpMulw:
		narrow = true
		fallthrough
	case api.OpMul:
		v = a * b
	case api.OpMulh:
		v = high(a, b) - negative(a, b) - negative(b, a)
	case api.OpMulhsu:
		v = high(a, b) - negative(a, b)
	case api.OpMulhu:
		v = high(a, b)
	case api.OpDivw:
		narrow, a, b = true, signed(a), signed(b)
		fallthrough
	case api.OpDiv:
		v, _ = quotient(a, b)
	case api.OpDivuw:
		narrow, a, b = true, unsigned(a), unsigned(b)
		fallthrough
	case api.OpDivu:
		v, _ = quotientUnsigned(a, b)
	case api.OpRemw:
		narrow, a, b = true, signed(a), signed(b)
		fallthrough
	case api.OpRem:
		_, v = quotient(a, b)
	case api.OpRemuw:
		narrow, a, b = true, unsigned(a), unsigned(b)
		fallthrough
	case api.OpRemu:
		_, v = quotientUnsigned(a, b)
	}
	return v, narrow
}

// Taken tells whether a branch is taken.
func Taken(op int, a, b uint64) (bool, api.Errno) {
	switch op {
	case api.OpBeq:
		return a == b, api.OK
	case api.OpBne:
		return a != b, api.OK
	case api.OpBlt:
		return int64(a) < int64(b), api.OK
	case api.OpBge:
		return int64(a) >= int64(b), api.OK
	case api.OpBltu:
		return a < b, api.OK
	case api.OpBgeu:
		return a >= b, api.OK
	}
	return false, api.ErrArg
}

// signed are a number's lowest 32 bits with their sign.
func signed(v uint64) uint64 { return uint64(int32(v)) }

// unsigned are a number's lowest 32 bits without one.
func unsigned(v uint64) uint64 { return uint64(uint32(v)) }

func truth(is bool) uint64 {
	if is {
		return 1
	}
	return 0
}

// high are the highest 64 bits of the product of two numbers without a sign.
func high(a, b uint64) uint64 {
	h, _ := bits.Mul64(a, b)
	return h
}

// negative is what a product's highest bits have too much of b, if a, being below 0, was taken as 2^64 more than it is.
func negative(a, b uint64) uint64 {
	if int64(a) < 0 {
		return b
	}
	return 0
}

// quotient is what a division of numbers with a sign makes, and what it leaves.
func quotient(a, b uint64) (quotient, rest uint64) {
	if b == 0 {
		return math.MaxUint64, a
	}
	// The least number by -1 goes round in Go as it must here.
	return uint64(int64(a) / int64(b)), uint64(int64(a) % int64(b))
}

// quotientUnsigned is what a division of numbers without a sign makes, and what it leaves.
func quotientUnsigned(a, b uint64) (quotient, rest uint64) {
	if b == 0 {
		return math.MaxUint64, a
	}
	return a / b, a % b
}
