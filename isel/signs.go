package isel

import (
	"math"

	"patina/api"
)

// sign is a register with what a sign makes of two operands.
func (w *function) sign(op string, left, right *api.Operand) int {
	if op == "-" && right.Kind == api.ONum && right.Num != math.MinInt64 {
		return w.sign("+", left, &api.Operand{Kind: api.ONum, Num: -right.Num})
	}
	a, b := w.word(left), w.word(right)
	switch op {
	case "+":
		if left.Kind == api.ONum {
			return w.more(b, a, left.Num)
		}
		if right.Kind == api.ONum {
			return w.more(a, b, right.Num)
		}
		s := w.binary("add", a, b)
		w.noteOver(w.binary("and", w.binary("xor", a, s), w.binary("xor", b, s)))
		return s
	case "-":
		s := w.binary("sub", a, b)
		w.noteOver(w.binary("and", w.binary("xor", a, b), w.binary("xor", a, s)))
		return s
	case "*":
		return w.product(a, b)
	case "/":
		return w.quotient("div", a, b, left, right)
	case "%":
		return w.quotient("rem", a, b, left, right)
	case ">":
		a, b = b, a
		fallthrough
	case "<":
		return w.binary("slt", a, b)
	case "<=":
		a, b = b, a
		fallthrough
	case ">=":
		return w.binary("xor", w.binary("slt", a, b), w.constant(1))
	case "==":
		return w.binary("sltu", w.binary("xor", a, b), w.constant(1))
	}
	return w.binary("sltu", w.constant(0), w.binary("xor", a, b)) // !=
}

// more is the sum of a register and a number, which another register has. It goes over where the sign changes from that of the number to the other one.
func (w *function) more(a, b int, n int64) int {
	s := w.binary("add", a, b)
	one := s
	if n < 0 {
		one = a
	}
	w.noteOver(w.binary("and", w.binary("xor", a, s), one))
	return s
}

func (w *function) negated(a int) int {
	s := w.binary("sub", w.constant(0), a)
	w.noteOver(w.binary("and", a, s)) // both are below 0
	return s
}

// product goes over where its highest bits are not all as the sign of its lowest ones is.
func (w *function) product(a, b int) int {
	s := w.binary("mul", a, b)
	signs := w.binary("sra", s, w.constant(63))
	other := w.binary("xor", w.binary("mulh", a, b), signs)
	w.noteOver(w.binary("or", other, w.binary("sub", w.constant(0), other)))
	return s
}

// quotient divides, or tells what is left, by the operation of a name.
func (w *function) quotient(name string, a, b int, left, right *api.Operand) int {
	by, isKnown := right.Num, right.Kind == api.ONum
	if !isKnown || by == 0 {
		w.noteNought(w.binary("sltu", b, w.constant(1)))
	}
	if least := left.Kind != api.ONum || left.Num == math.MinInt64; least && (!isKnown || by == -1) {
		other := w.binary("or", w.binary("xor", a, w.constant(math.MinInt64)), w.binary("xor", b, w.constant(-1)))
		w.noteOver(w.binary("sub", w.constant(0), w.binary("sltu", other, w.constant(1))))
	}
	return w.binary(name, a, b)
}
