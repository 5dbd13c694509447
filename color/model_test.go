package color

import (
	"math/rand"
	"slices"

	"patina/api"
	"patina/live"
)

func constant(d int, n int64) api.LIns { return api.LIns{Op: api.LConst, D: d, N: n} }

func move(d, a int) api.LIns { return api.LIns{Op: api.LMove, D: d, A: a} }

func bin(d int, name string, a, b int) api.LIns {
	return api.LIns{Op: api.LBin, D: d, A: a, B: b, Name: name}
}

func calls(d int, name string, args ...int) api.LIns {
	return api.LIns{Op: api.LCall, D: d, Name: name, Args: args}
}

func jump(to int) api.LIns { return api.LIns{Op: api.LJump, To: to} }

func branch(a, to, other int) api.LIns { return api.LIns{Op: api.LIf, A: a, To: to, Else: other} }

func ret(a int) api.LIns { return api.LIns{Op: api.LRet, A: a} }

func trap(n int64) api.LIns { return api.LIns{Op: api.LTrap, N: n} }

func block(l ...api.LIns) api.LBlock { return api.LBlock{Ins: l} }

func function(name string, params, regs int, l ...api.LBlock) api.LFn {
	return api.LFn{Name: name, Params: params, Regs: regs, Blocks: l}
}

// allClash is a function whose registers all clash with one another.
func allClash(regs int) api.LFn {
	var b api.LBlock
	for r := range regs {
		b.Ins = append(b.Ins, constant(r, int64(r)))
	}
	for r := range regs {
		b.Ins = append(b.Ins, calls(-1, "rt.print", r))
	}
	b.Ins = append(b.Ins, ret(-1))
	return function("main", 0, regs, b)
}

// chosen is a function in which just these pairs of registers clash: each pair has a block of its own, that nothing else comes to.
func chosen(regs int, pairs ...[2]int) api.LFn {
	f := function("main", 0, regs, block(trap(0)))
	for _, p := range pairs {
		f.Blocks = append(f.Blocks, block(constant(p[0], 1), constant(p[1], 2), calls(-1, "g", p[0], p[1]), trap(0)))
	}
	return f
}

// withMoves is a function with moves besides, in a block that nothing comes to, and behind which nothing is live.
func withMoves(f api.LFn, pairs ...[2]int) api.LFn {
	f.Blocks = slices.Clone(f.Blocks)
	var b api.LBlock
	for _, p := range pairs {
		b.Ins = append(b.Ins, move(p[0], p[1]))
	}
	f.Blocks = append(f.Blocks, api.LBlock{Ins: append(b.Ins, trap(0))})
	return f
}

// beside is which registers clash, as a table.
func beside(f api.LFn) [][]bool {
	t := make([][]bool, f.Regs)
	for r := range t {
		t[r] = make([]bool, f.Regs)
	}
	pairs, _ := live.Clash(f)
	for _, p := range pairs {
		t[p[0]][p[1]], t[p[1]][p[0]] = true, true
	}
	return t
}

// modelGreedy tries the numbers one by one, colours first.
func modelGreedy(f api.LFn, k int) []int {
	t := beside(f)
	var l []int
	for r := range f.Regs {
		free := func(p int) bool {
			for below, has := range l {
				if t[r][below] && has == p {
					return false
				}
			}
			return true
		}
		p := 0
		for p < k && !free(p) {
			p++
		}
		if p == k {
			p = -1
			for !free(p) {
				p--
			}
		}
		l = append(l, p)
	}
	return l
}

// right tells whether places are right, by the chapter's words.
func right(f api.LFn, k int, places []int) bool {
	if len(places) != f.Regs {
		return false
	}
	for _, p := range places {
		if p >= k || p < -1-4096 {
			return false
		}
	}
	for a, row := range beside(f) {
		for b, clash := range row {
			if clash && places[a] == places[b] {
				return false
			}
		}
	}
	return true
}

// someProgram is a program that ends within some fuel or does not: a main, and a function with parameters that it calls.
func someProgram(g *rand.Rand, regs int) []api.LFn {
	params := g.Intn(min(regs, 4) + 1)
	l := []api.LFn{function("main", 0, regs), function("g", params, regs)}
	for k := range l {
		blocks := 1 + g.Intn(6)
		for range blocks {
			var b api.LBlock
			for range g.Intn(8) {
				b.Ins = append(b.Ins, someInstruction(g, regs, params, k == 0))
			}
			l[k].Blocks = append(l[k].Blocks, api.LBlock{Ins: append(b.Ins, someEnd(g, regs, blocks))})
		}
	}
	return l
}

func someInstruction(g *rand.Rand, regs, params int, callsG bool) api.LIns {
	r := func() int { return g.Intn(regs) }
	switch g.Intn(9) {
	case 0, 1:
		return constant(r(), int64(g.Intn(9)-2))
	case 2, 3, 4:
		return move(r(), r())
	case 5:
		return bin(r(), []string{"add", "sub", "mul", "slt"}[g.Intn(4)], r(), r())
	case 6:
		return calls(g.Intn(regs+1)-1, "rt.read")
	case 7:
		if callsG {
			var args []int
			for range params {
				args = append(args, r())
			}
			return calls(g.Intn(regs+1)-1, "g", args...)
		}
	}
	return calls(g.Intn(regs+1)-1, "rt.print", r())
}

func someEnd(g *rand.Rand, regs, blocks int) api.LIns {
	switch g.Intn(8) {
	case 0:
		return jump(g.Intn(blocks))
	case 1, 2, 3, 4:
		return branch(g.Intn(regs), g.Intn(blocks), g.Intn(blocks))
	case 5:
		return trap(int64(g.Intn(256)))
	}
	return ret(g.Intn(regs+1) - 1)
}

// someClashes is a function with clashes and moves of any shape, more or fewer.
func someClashes(g *rand.Rand, regs int) api.LFn {
	var clash, moves [][2]int
	most := 1 + g.Intn(10)
	for a := range regs {
		for b := range a {
			if g.Intn(10) < most {
				clash = append(clash, [2]int{b, a})
			}
			if g.Intn(10) == 0 {
				moves = append(moves, [2]int{a, b})
			}
		}
	}
	return withMoves(chosen(regs, clash...), moves...)
}
