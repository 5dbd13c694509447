package mirtest

import (
	"math/bits"

	"patina/api"
)

// sign is what a sign makes of two numbers, unless it ends the program.
func (m *model) sign(op string, a, b int64) int64 {
	if v, is := compared(op, a, b); is {
		return v
	}
	over := false
	v := a + b
	switch op {
	case "+":
		over = (a < 0) == (b < 0) && (v < 0) != (a < 0)
	case "-":
		v = a - b
		over = (a < 0) != (b < 0) && (v < 0) != (a < 0)
	case "*":
		v = a * b
		over = isOver(a, b)
	default:
		if b == 0 {
			m.stop(api.EndDone, api.ExitDivide)
		}
		over = b == -1 && a < 0 && a-1 > 0
		if v = a % b; op == "/" {
			v = a / b
		}
	}
	if over {
		m.stop(api.EndDone, api.ExitOverflow)
	}
	return v
}

// isOver tells whether a product goes over.
func isOver(a, b int64) bool {
	most := uint64(1)<<63 - 1
	if (a < 0) != (b < 0) {
		most++
	}
	high, low := bits.Mul64(magnitude(a), magnitude(b))
	return high > 0 || low > most
}

func magnitude(a int64) uint64 {
	if a < 0 {
		return -uint64(a)
	}
	return uint64(a)
}

// compared is what a sign tells that compares.
func compared(op string, a, b int64) (int64, bool) {
	holds := false
	switch op {
	case "<":
		holds = a < b
	case "<=":
		holds = a <= b
	case ">":
		holds = a > b
	case ">=":
		holds = a >= b
	case "==":
		holds = a == b
	case "!=":
		holds = a != b
	default:
		return 0, false
	}
	if holds {
		return 1, true
	}
	return 0, true
}
