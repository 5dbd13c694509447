package cpu

import (
	"math"
	"math/big"
	"math/rand"
	"strings"
	"testing"

	"patina/api"
	"patina/rv"
)

const (
	all    = math.MaxUint64      // -1
	minus2 = all - 1             // -2
	minus7 = all - 6             // -7
	least  = 1 << 63             // the least number
	least4 = 0xffffffff_80000000 // that of 32 bits
	most4  = 0x00000000_7fffffff // the greatest of 32 bits
	half   = 0x00000001_00000000 // 2^32
	upper  = 0xffffffff_00000000 // -2^32
	mixed  = 0x89abcdef_f1234567 // below 0, its lower half too
	other  = 0x0fedcba9_87654321 // its lower half alone
)

// 3.4: each operation, its signs, its ends.
func TestAluByHand(t *testing.T) {
	for _, c := range []struct {
		op         int
		a, b, want uint64
	}{
		{api.OpAddi, 5, all, 4}, {api.OpAdd, all, 1, 0}, {api.OpAdd, least, least, 0}, {api.OpAdd, most4, 1, 1 << 31},
		{api.OpSub, 0, 1, all}, {api.OpSub, 7, 9, all - 1},
		{api.OpSlti, all, 0, 1}, {api.OpSlti, 0, all, 0}, {api.OpSlti, 4, 4, 0}, {api.OpSlt, least, 1, 1}, {api.OpSlt, 1, least, 0}, {api.OpSlt, 3, 3, 0},
		{api.OpSltiu, all, 0, 0}, {api.OpSltiu, 0, all, 1}, {api.OpSltiu, 4, 4, 0}, {api.OpSltu, least, 1, 0}, {api.OpSltu, 1, least, 1}, {api.OpSltu, 3, 3, 0},
		{api.OpXori, 12, 10, 6}, {api.OpXor, all, 1, all - 1}, {api.OpOri, 12, 10, 14}, {api.OpOr, 0, least, least}, {api.OpAndi, 12, 10, 8}, {api.OpAnd, all, mixed, mixed},
		{api.OpSlli, 1, 63, least}, {api.OpSll, 1, 64, 1}, {api.OpSll, 3, all, least}, {api.OpSll, 1, 32, half},
		{api.OpSrli, all, 63, 1}, {api.OpSrl, least, 64, least}, {api.OpSrl, least, 65, 1 << 62}, {api.OpSrl, least, 63, 1},
		{api.OpSrai, least, 63, all}, {api.OpSra, least, 64, least}, {api.OpSra, least, 1, 3 << 62}, {api.OpSra, 1 << 62, 62, 1},
		{api.OpAddiw, most4, 1, least4}, {api.OpAddw, most4, 1, least4}, {api.OpAddw, half + 1, half + 1, 2}, {api.OpAddw, least4, all, most4},
		{api.OpSubw, 0, 1, all}, {api.OpSubw, least4, 1, most4}, {api.OpSubw, half, 0, 0},
		{api.OpSlliw, 1, 31, least4}, {api.OpSllw, 1, 32, 1}, {api.OpSllw, 3, 31, least4}, {api.OpSllw, half + 1, 0, 1},
		{api.OpSrliw, all, 31, 1}, {api.OpSrlw, all, 0, all}, {api.OpSrlw, all, 32, all}, {api.OpSrlw, all, 4, 0x0fffffff}, {api.OpSrlw, half, 1, 0},
		{api.OpSraiw, 1 << 31, 31, all}, {api.OpSraw, 0x80000000, 4, 0xfffffffff8000000}, {api.OpSraw, most4, 30, 1}, {api.OpSraw, 1 << 31, 32, least4}, {api.OpSraw, upper, 1, 0},
		{api.OpMul, all, all, 1}, {api.OpMul, half, half, 0}, {api.OpMul, minus7, 3, all - 20}, {api.OpMulw, half + 3, 5, 15}, {api.OpMulw, 1 << 16, 1 << 15, least4},
		{api.OpMulh, all, all, 0}, {api.OpMulh, all, 1, all}, {api.OpMulh, least, least, 1 << 62}, {api.OpMulh, half, half, 1}, {api.OpMulh, 1, all, all},
		{api.OpMulhsu, all, all, all}, {api.OpMulhsu, 1, all, 0}, {api.OpMulhsu, least, 2, all}, {api.OpMulhsu, 2, least, 1},
		{api.OpMulhu, all, all, all - 1}, {api.OpMulhu, all, 1, 0}, {api.OpMulhu, least, 2, 1},
		{api.OpDiv, 7, 2, 3}, {api.OpDiv, minus7, 2, all - 2}, {api.OpDiv, 7, all - 1, all - 2}, {api.OpDiv, minus7, all - 1, 3}, {api.OpDiv, 7, 0, all}, {api.OpDiv, 0, 0, all}, {api.OpDiv, least, all, least},
		{api.OpDivu, 7, 2, 3}, {api.OpDivu, all, 2, least - 1}, {api.OpDivu, 7, 0, all}, {api.OpDivu, least, all, 0},
		{api.OpRem, 7, 2, 1}, {api.OpRem, minus7, 2, all}, {api.OpRem, 7, all - 1, 1}, {api.OpRem, minus7, all - 1, all}, {api.OpRem, minus7, 0, minus7}, {api.OpRem, least, all, 0},
		{api.OpRemu, 7, 2, 1}, {api.OpRemu, all, 2, 1}, {api.OpRemu, mixed, 0, mixed}, {api.OpRemu, least, all, least},
		{api.OpDivw, half + 7, 2, 3}, {api.OpDivw, minus7, 2, all - 2}, {api.OpDivw, 7, half, all}, {api.OpDivw, least4, all, least4}, {api.OpDivw, 1 << 31, 1<<32 - 1, least4}, {api.OpDivw, 7, 1<<32 - 2, all - 2},
		{api.OpDivuw, all, 2, most4}, {api.OpDivuw, all, 1, all}, {api.OpDivuw, 7, half, all}, {api.OpDivuw, 1 << 31, 1<<32 - 1, 0},
		{api.OpRemw, half + 7, 2, 1}, {api.OpRemw, minus7, 2, all}, {api.OpRemw, 1 << 31, half, least4}, {api.OpRemw, 7, 0, 7}, {api.OpRemw, 1 << 31, 1<<32 - 1, 0},
		{api.OpRemuw, all, 2, 1}, {api.OpRemuw, minus2, half, minus2}, {api.OpRemuw, 1 << 31, 1<<32 - 1, least4}, {api.OpRemuw, half + 7, 4, 3},
	} {
		if v, e := Alu(c.op, c.a, c.b); v != c.want || e != api.OK {
			t.Errorf("Alu(%s, %x, %x): %x, %v; not %x", rv.Name(c.op), c.a, c.b, v, e, c.want)
		}
	}
}

// cut is a number's lowest bits, so many, with their sign or without.
func cut(v uint64, bits uint, sign bool) *big.Int {
	n := new(big.Int).SetUint64(v)
	n.And(n, new(big.Int).Sub(new(big.Int).Lsh(big.NewInt(1), bits), big.NewInt(1)))
	if sign && n.Bit(int(bits)-1) == 1 {
		n.Sub(n, new(big.Int).Lsh(big.NewInt(1), bits))
	}
	return n
}

// low is a number's lowest 64 bits.
func low(n *big.Int) uint64 {
	return new(big.Int).And(n, new(big.Int).SetUint64(all)).Uint64()
}

// told is what the chapter says of an operation, by its name, in numbers without ends.
func told(name string, a, b uint64) uint64 {
	bits := uint(64)
	if base, narrow := strings.CutSuffix(name, "w"); narrow {
		name, bits = base, 32
	}
	sa, sb, ua, ub := cut(a, bits, true), cut(b, bits, true), cut(a, bits, false), cut(b, bits, false)
	by := uint(b % uint64(bits))
	r := new(big.Int)
	switch name {
	case "add", "addi":
		r.Add(sa, sb)
	case "sub":
		r.Sub(sa, sb)
	case "sll", "slli":
		r.Lsh(ua, by)
	case "srl", "srli":
		r.Rsh(ua, by)
	case "sra", "srai":
		r.Rsh(sa, by) // big.Int's is that of a sign that goes on for ever
	case "slt", "slti":
		r.SetInt64(int64(1-sa.Cmp(sb)) / 2)
	case "sltu", "sltiu":
		r.SetInt64(int64(1-ua.Cmp(ub)) / 2)
	case "xor", "xori":
		r.Xor(ua, ub)
	case "or", "ori":
		r.Or(ua, ub)
	case "and", "andi":
		r.And(ua, ub)
	case "mul":
		r.Mul(sa, sb)
	case "mulh":
		r.Rsh(r.Mul(sa, sb), 64)
	case "mulhsu":
		r.Rsh(r.Mul(sa, ub), 64)
	case "mulhu":
		r.Rsh(r.Mul(ua, ub), 64)
	case "div", "divu", "rem", "remu":
		r = divided(name, sa, sb, ua, ub)
	default:
		panic(name)
	}
	return low(cut(low(r), bits, true))
}

func divided(name string, sa, sb, ua, ub *big.Int) *big.Int {
	a, b := sa, sb
	if strings.HasSuffix(name, "u") {
		a, b = ua, ub
	}
	if b.Sign() == 0 && strings.HasPrefix(name, "div") {
		return big.NewInt(-1)
	}
	if b.Sign() == 0 {
		return a
	}
	q, r := new(big.Int).QuoRem(a, b, new(big.Int)) // toward nought
	if strings.HasPrefix(name, "div") {
		return q
	}
	return r
}

func someNumbers() []uint64 {
	l := []uint64{0, 1, 2, 3, 4, 5, 7, 31, 32, 33, 63, 64, 65, all, all - 1, minus7, least, least + 1, least - 1, mixed, other,
		least4, least4 - 1, least4 + 1, most4, most4 + 1, most4 - 1, half, half - 1, half + 1, half << 1, upper, all - most4, 0xaaaaaaaaaaaaaaaa, 1 << 62}
	r := rand.New(rand.NewSource(1))
	for range 12 {
		l = append(l, r.Uint64(), r.Uint64()>>r.Intn(64))
	}
	return l
}

// 3.4: all operations of Alu, of all pairs of numbers that may matter, by numbers without ends.
func TestAluAgainstBigNumbers(t *testing.T) {
	l := someNumbers()
	for op := api.OpAddi; op <= api.OpRemuw; op++ {
		for _, a := range l {
			for _, b := range l {
				want := told(rv.Name(op), a, b)
				if v, e := Alu(op, a, b); v != want || e != api.OK {
					t.Fatalf("Alu(%s, %x, %x): %x, %v; not %x", rv.Name(op), a, b, v, e, want)
				}
			}
		}
	}
}

// 3.4: what Alu and Taken don't have, with zero values beside the error (R4, P1).
func TestOperationsThatAreNotThere(t *testing.T) {
	l := []int{0, -1, 66, 1000, 1<<32 + api.OpAddi, 1<<32 + api.OpBeq, math.MinInt, math.MaxInt}
	for op := api.OpLui; op <= api.OpEbreak; op++ {
		l = append(l, op)
	}
	for _, op := range l {
		has := op >= 22 && op <= 62
		if v, e := Alu(op, 6, 3); has != (e == api.OK) || !has && (v != 0 || e != api.ErrArg) {
			t.Errorf("Alu(%d): %d, %v", op, v, e)
		}
		branch := op >= 5 && op <= 10
		if is, e := Taken(op, 3, 3); branch != (e == api.OK) || !branch && (is || e != api.ErrArg) {
			t.Errorf("Taken(%d): %v, %v", op, is, e)
		}
	}
}

// 3.4: each branch, of numbers that are less, equal and greater, with a sign and without.
func TestTaken(t *testing.T) {
	l := someNumbers()
	for op := api.OpBeq; op <= api.OpBgeu; op++ {
		for _, a := range l {
			for _, b := range l {
				s, u := cut(a, 64, true).Cmp(cut(b, 64, true)), cut(a, 64, false).Cmp(cut(b, 64, false))
				want := []bool{u == 0, u != 0, s < 0, s >= 0, u < 0, u >= 0}[op-api.OpBeq]
				if is, e := Taken(op, a, b); is != want || e != api.OK {
					t.Errorf("Taken(%s, %x, %x): %v, %v", rv.Name(op), a, b, is, e)
				}
			}
		}
	}
}
