package live

import (
	"math/rand"
	"slices"

	"patina/api"
)

func constant(d int, n int64) api.LIns { return api.LIns{Op: api.LConst, D: d, N: n} }

func move(d, a int) api.LIns { return api.LIns{Op: api.LMove, D: d, A: a} }

func add(d, a, b int) api.LIns { return api.LIns{Op: api.LBin, D: d, A: a, B: b, Name: "add"} }

func load(d, a int) api.LIns { return api.LIns{Op: api.LLoad, D: d, A: a, N: 8} }

func store(a, b int) api.LIns { return api.LIns{Op: api.LStore, A: a, N: -8, B: b} }

func frame(d int) api.LIns { return api.LIns{Op: api.LFrame, D: d} }

func calls(d int, args ...int) api.LIns {
	return api.LIns{Op: api.LCall, D: d, Name: "g", Args: args}
}

func jump(to int) api.LIns { return api.LIns{Op: api.LJump, To: to} }

func branch(a, to, other int) api.LIns { return api.LIns{Op: api.LIf, A: a, To: to, Else: other} }

func ret(a int) api.LIns { return api.LIns{Op: api.LRet, A: a} }

func trap() api.LIns { return api.LIns{Op: api.LTrap, N: 3} }

func block(l ...api.LIns) api.LBlock { return api.LBlock{Ins: l} }

func function(params, regs int, l ...api.LBlock) api.LFn {
	return api.LFn{Name: "f", Params: params, Regs: regs, Frame: 1, Blocks: l}
}

// where is an instruction of a function.
type where struct{ block, i int }

func (w where) in(f api.LFn) api.LIns { return f.Blocks[w.block].Ins[w.i] }

// all are a function's instructions.
func all(f api.LFn) []where {
	var l []where
	for b := range f.Blocks {
		for i := range f.Blocks[b].Ins {
			l = append(l, where{b, i})
		}
	}
	return l
}

// after are the instructions that may come next.
func after(f api.LFn, w where) []where {
	switch i := w.in(f); i.Op {
	case api.LJump:
		return []where{{i.To, 0}}
	case api.LIf:
		return []where{{i.To, 0}, {i.Else, 0}}
	case api.LRet, api.LTrap:
		return nil
	}
	return []where{{w.block, w.i + 1}}
}

// usesIt is the chapter's table of uses, register by register.
func usesIt(i api.LIns, r int) bool {
	switch i.Op {
	case 2, 4, 9:
		return i.A == r
	case 3, 5:
		return i.A == r || i.B == r
	case 7:
		return slices.Contains(i.Args, r)
	case 10:
		return i.A == r && r != -1
	}
	return false
}

// setsIt is the chapter's table of sets.
func setsIt(i api.LIns, r int) bool {
	return slices.Contains([]int{1, 2, 3, 4, 6, 7}, i.Op) && i.D == r && r != -1
}

// liveAhead looks for a way from an instruction to one that uses a register, by such as do not set it.
func liveAhead(f api.LFn, w where, r int) bool {
	seen := map[where]bool{}
	work := []where{w}
	for len(work) > 0 {
		x := work[0]
		work = work[1:]
		if seen[x] {
			continue
		}
		seen[x] = true
		if usesIt(x.in(f), r) {
			return true
		}
		if !setsIt(x.in(f), r) {
			work = append(work, after(f, x)...)
		}
	}
	return false
}

func liveBehind(f api.LFn, w where, r int) bool {
	return slices.ContainsFunc(after(f, w), func(x where) bool { return liveAhead(f, x, r) })
}

// which are the registers of a function of which something holds, rising.
func which(f api.LFn, holds func(r int) bool) []int {
	var l []int
	for r := range f.Regs {
		if holds(r) {
			l = append(l, r)
		}
	}
	return l
}

// whichPairs are the pairs of a function's registers of which something holds one way or the other, in order.
func whichPairs(f api.LFn, holds func(a, b int) bool) [][2]int {
	var l [][2]int
	for a := range f.Regs {
		for b := a + 1; b < f.Regs; b++ {
			if holds(a, b) || holds(b, a) {
				l = append(l, [2]int{a, b})
			}
		}
	}
	return l
}

func modelIn(f api.LFn) [][]int {
	var l [][]int
	for b := range f.Blocks {
		l = append(l, which(f, func(r int) bool { return liveAhead(f, where{b, 0}, r) }))
	}
	return l
}

func modelClash(f api.LFn) [][2]int {
	return whichPairs(f, func(a, b int) bool {
		if a < f.Params && (b < f.Params || liveAhead(f, where{}, b)) {
			return true
		}
		return slices.ContainsFunc(all(f), func(w where) bool {
			i := w.in(f)
			return setsIt(i, a) && liveBehind(f, w, b) && !(i.Op == api.LMove && i.A == b)
		})
	})
}

func modelMoves(f api.LFn) [][2]int {
	return whichPairs(f, func(a, b int) bool {
		return slices.ContainsFunc(all(f), func(w where) bool {
			i := w.in(f)
			return i.Op == api.LMove && i.D == a && i.A == b
		})
	})
}

func modelAcross(f api.LFn) []int {
	return which(f, func(r int) bool {
		return slices.ContainsFunc(all(f), func(w where) bool {
			i := w.in(f)
			return i.Op == api.LCall && i.D != r && liveAhead(f, w, r) && liveBehind(f, w, r)
		})
	})
}

// someFunction is a right function with a few registers and blocks, of any shape.
func someFunction(g *rand.Rand, regs int) api.LFn {
	f := function(g.Intn(min(regs, 4)+1), regs)
	blocks := 1 + g.Intn(6)
	for range blocks {
		var b api.LBlock
		for range g.Intn(5) {
			b.Ins = append(b.Ins, someInstruction(g, regs))
		}
		b.Ins = append(b.Ins, someEnd(g, regs, blocks))
		f.Blocks = append(f.Blocks, b)
	}
	return f
}

func someInstruction(g *rand.Rand, regs int) api.LIns {
	r := func() int { return g.Intn(regs) }
	switch g.Intn(10) {
	case 0:
		return constant(r(), g.Int63())
	case 1, 2, 3:
		return move(r(), r())
	case 4, 5:
		return add(r(), r(), r())
	case 6:
		return load(r(), r())
	case 7:
		return store(r(), r())
	case 8:
		return frame(r())
	}
	var args []int
	for range g.Intn(4) {
		args = append(args, r())
	}
	return calls(g.Intn(regs+1)-1, args...)
}

func someEnd(g *rand.Rand, regs, blocks int) api.LIns {
	switch g.Intn(8) {
	case 0, 1:
		return jump(g.Intn(blocks))
	case 2, 3, 4:
		return branch(g.Intn(regs), g.Intn(blocks), g.Intn(blocks))
	case 5:
		return trap()
	}
	return ret(g.Intn(regs+1) - 1)
}
