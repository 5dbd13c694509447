package lir

import "math/bits"

// operation is a row of what can be made of two numbers.
type operation struct {
	do func(a, b int64) int64
}

// operations are all of them, by their names.
func operations() map[string]operation {
	return map[string]operation{
		"add":  {func(a, b int64) int64 { return a + b }},
		"sub":  {func(a, b int64) int64 { return a - b }},
		"mul":  {func(a, b int64) int64 { return a * b }},
		"mulh": {high},
		"div":  {quotient},
		"rem":  {rest},
		"and":  {func(a, b int64) int64 { return a & b }},
		"or":   {func(a, b int64) int64 { return a | b }},
		"xor":  {func(a, b int64) int64 { return a ^ b }},
		"sll":  {func(a, b int64) int64 { return a << shift(b) }},
		"srl":  {func(a, b int64) int64 { return int64(uint64(a) >> shift(b)) }},
		"sra":  {func(a, b int64) int64 { return a >> shift(b) }},
		"slt":  {func(a, b int64) int64 { return truth(a < b) }},
		"sltu": {func(a, b int64) int64 { return truth(uint64(a) < uint64(b)) }},
	}
}

// shift is by how many bits a number shifts.
func shift(b int64) uint { return uint(b) % 64 }

func truth(is bool) int64 {
	if is {
		return 1
	}
	return 0
}

// high are the highest 64 bits of a product.
func high(a, b int64) int64 {
	h, _ := bits.Mul64(uint64(a), uint64(b))
	// A number below 0 was taken as 2^64 more than it is.
	return int64(h) - negative(a, b) - negative(b, a)
}

// negative is b, if a is below 0, else 0.
func negative(a, b int64) int64 {
	if a < 0 {
		return b
	}
	return 0
}

// quotient goes round in Go as it must here, where the least number is divided by -1.
func quotient(a, b int64) int64 {
	if b == 0 {
		return -1
	}
	return a / b
}

func rest(a, b int64) int64 {
	if b == 0 {
		return a
	}
	return a % b
}
