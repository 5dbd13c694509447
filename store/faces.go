package store

import (
	"slices"

	"patina/api"
)

// LookAt tells what is wrong with what a run is given besides a program.
func LookAt(in []byte, fuel int) api.Errno {
	if len(in) > api.MaxSource {
		return api.ErrLong
	}
	if fuel < 0 {
		return api.ErrArg
	}
	return api.OK
}

// TakesNumbers tells whether a function takes just so many numbers, and tells a number or nothing.
func TakesNumbers(f api.Fn, args int) bool {
	other := func(p api.Field) bool { return p.Type != numberType }
	return len(f.Params) == args && !slices.ContainsFunc(f.Params, other) && (f.Ret == numberType || f.Ret == unitType)
}

// Values are numbers as values, each in words of its own.
func Values(numbers []int64) [][]Word {
	var l [][]Word
	for _, n := range numbers {
		l = append(l, []Word{Number(n)})
	}
	return l
}
