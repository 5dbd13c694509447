package driver

import (
	"slices"

	"patina/api"
	"patina/eval"
	"patina/flow"
	"patina/rt"
)

// leastFrame is how many words the frames of functions have that may be called within themselves. A source goes no further than eval.MaxCalls calls in one another, so its image must not: with these frames the stack ends ahead of that. Calls of other functions stand at most once among those that are in one another, so there are at most MaxItems of them.
const leastFrame = (rt.StackSize-rt.Guard)/(8*(eval.MaxCalls-api.MaxItems)) + 1

// withinStack is a program of LIR in which those of the source's functions that may be called within themselves have such frames.
func withinStack(l []api.LFn, it api.Items) []api.LFn {
	l = slices.Clone(l)
	calls := callsOf(l)
	for k := range l {
		own := slices.ContainsFunc(it.Fns, func(f api.Fn) bool { return f.Name == l[k].Name })
		if own && withinItself(calls, k) {
			l[k].Frame = max(l[k].Frame, leastFrame)
		}
	}
	return l
}

// callsOf are the functions that each one calls.
func callsOf(l []api.LFn) [][]int {
	numbers := map[string]int{}
	for k, f := range l {
		numbers[f.Name] = k
	}
	calls := make([][]int, len(l))
	for k, f := range l {
		for _, b := range f.Blocks {
			for _, i := range b.Ins {
				if to, own := numbers[i.Name]; own && i.Op == api.LCall {
					calls[k] = append(calls[k], to)
				}
			}
		}
	}
	return calls
}

// withinItself tells whether a function may be called within itself.
func withinItself(calls [][]int, k int) bool {
	return slices.ContainsFunc(flow.Order(calls, k), func(from int) bool { return slices.Contains(calls[from], k) })
}
