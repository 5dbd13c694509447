package lir

import (
	"math"
	"strings"

	"patina/api"
)

// checker looks at functions.
type checker struct {
	operations map[string]operation
	params     map[string]int // how many parameters the functions have that may be called; nil: any may be, with any number
}

func programRight(l []api.LFn) bool {
	if len(l) == 0 || len(l) > MaxFns || l[0].Params != 0 {
		return false
	}
	c := checker{operations: operations(), params: map[string]int{}}
	for _, f := range l {
		if _, there := c.params[f.Name]; there {
			return false
		}
		c.params[f.Name] = f.Params
	}
	for _, f := range l {
		if !c.function(f) {
			return false
		}
	}
	return true
}

func (c checker) function(f api.LFn) bool {
	if !nameRight(f.Name) || !within(f.Params, 0, api.MaxParams+1) || !within(f.Regs, f.Params, MaxRegs) ||
		!within(f.Frame, 0, MaxFrame) || !within(len(f.Blocks), 1, api.MaxBlocks) {
		return false
	}
	for _, b := range f.Blocks {
		if !c.block(f, b) {
			return false
		}
	}
	return true
}

func (c checker) block(f api.LFn, b api.LBlock) bool {
	n := len(b.Ins)
	if !within(n, 1, MaxIns) {
		return false
	}
	for k, i := range b.Ins {
		if isEnd(i.Op) != (k == n-1) || !c.instruction(f, i) {
			return false
		}
	}
	return true
}

func isEnd(op int) bool {
	return op == api.LJump || op == api.LIf || op == api.LRet || op == api.LTrap
}

// instruction tells whether the fields that an instruction has are in their ranges, and all others 0 or empty.
func (c checker) instruction(f api.LFn, i api.LIns) bool {
	if i.Op < api.LConst || i.Op > api.LTrap {
		return false
	}
	fields := forms[i.Op].fields
	has := func(field string) bool { return strings.Contains(fields, field) }
	for _, r := range i.Args {
		if !below(r, true, f.Regs) {
			return false
		}
	}
	return (i.Op == api.LCall && i.D == none || below(i.D, has(fieldD), f.Regs)) &&
		(i.Op == api.LRet && i.A == none || below(i.A, has(fieldA), f.Regs)) &&
		below(i.B, has(fieldB), f.Regs) &&
		below(i.To, has(fieldTo), len(f.Blocks)) &&
		below(i.Else, has(fieldElse), len(f.Blocks)) &&
		numberRight(f, i) && c.nameAndArgs(i)
}

// below tells whether a number that an instruction has is from 0 to below an end; one that it has not is 0.
func below(n int, has bool, end int) bool {
	if !has {
		return n == 0
	}
	return n >= 0 && n < end
}

func numberRight(f api.LFn, i api.LIns) bool {
	switch i.Op {
	case api.LConst:
		return true
	case api.LLoad, api.LStore:
		return i.N >= math.MinInt32 && i.N <= math.MaxInt32 && i.N%8 == 0
	case api.LFrame:
		return i.N >= 0 && i.N < int64(f.Frame)
	case api.LTrap:
		return i.N >= 0 && i.N <= 255
	}
	return i.N == 0
}

func (c checker) nameAndArgs(i api.LIns) bool {
	switch i.Op {
	case api.LCall:
		return c.callee(i.Name, len(i.Args))
	case api.LBin:
		_, there := c.operations[i.Name]
		return there && len(i.Args) == 0
	}
	return i.Name == "" && len(i.Args) == 0
}

// callee tells whether a name may be called with so many arguments.
func (c checker) callee(name string, args int) bool {
	if n, runtime := runtimeArgs(name); runtime {
		return args == n
	}
	if c.params == nil {
		return nameRight(name) && args <= api.MaxParams+1
	}
	n, there := c.params[name]
	return there && args == n
}

func nameRight(name string) bool {
	if !within(len(name), 1, api.MaxName) || isDigit(name[0]) {
		return false
	}
	for k := range len(name) {
		if b := name[k]; !isDigit(b) && !isLetter(b) && b != '_' {
			return false
		}
	}
	return true
}

func isDigit(b byte) bool { return b >= '0' && b <= '9' }

func isLetter(b byte) bool { return b >= 'a' && b <= 'z' || b >= 'A' && b <= 'Z' }

func within(n, low, high int) bool { return n >= low && n <= high }
