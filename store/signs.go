package store

import (
	"math"

	"patina/api"
)

// Calculate is what a sign makes of two numbers or truths, unless it ends the program.
func (r *Run) Calculate(sign string, left, right Word) Word {
	v, code := Calculated(sign, r.NumberOf(left), r.NumberOf(right))
	if code != api.ExitDone {
		r.Exit(code)
	}
	return Number(v)
}

// Negate is a number with - ahead, unless it ends the program.
func (r *Run) Negate(w Word) Word { return r.Calculate("-", Number(0), w) }

// Holds tells whether a word is true.
func (r *Run) Holds(w Word) bool { return r.NumberOf(w) == 1 }

// Calculated is what a sign makes of two numbers, or with which code it ends a program.
func Calculated(sign string, a, b int64) (int64, int) {
	switch sign {
	case "+":
		return a + b, overIf((a+b > a) != (b > 0))
	case "-":
		return a - b, overIf((a-b < a) != (b > 0))
	case "*":
		return a * b, overIf(a != 0 && (a*b/a != b || a == -1 && b == math.MinInt64))
	case "/", "%":
		return divided(sign, a, b)
	}
	return int64(Truth(compared(sign, a, b))), api.ExitDone
}

func overIf(over bool) int {
	if over {
		return api.ExitOverflow
	}
	return api.ExitDone
}

func divided(sign string, a, b int64) (int64, int) {
	if b == 0 {
		return 0, api.ExitDivide
	}
	over := overIf(a == math.MinInt64 && b == -1)
	if sign == "/" {
		return a / b, over
	}
	return a % b, over
}

func compared(sign string, a, b int64) bool {
	switch sign {
	case "<":
		return a < b
	case "<=":
		return a <= b
	case ">":
		return a > b
	case ">=":
		return a >= b
	case "==":
		return a == b
	}
	return a != b
}
