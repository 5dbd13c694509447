package emit_test

import (
	"math"
	"math/rand"
	"slices"
	"strconv"
	"testing"

	"patina/api"
	"patina/color"
	"patina/emit"
	"patina/lir"
	"patina/rt"
)

// given is a way to choose that hands out places for the registers of one function, and the compiler's own for all others.
func given(name string, places ...int) chooser {
	return func(f api.LFn) []int {
		if f.Name == name {
			return places
		}
		return byColor(f)
	}
}

// threes are places of three registers, each in a colour or a slot, near or far; those that may share one do in some of them.
func threes() [][]int {
	l := [][]int{{0, 1, 0}, {0, 1, 1}, {-1, -2, -1}, {-1, -2, -2}, {7, -9, 7}, {-9, 7, -9}, {11, 10, 9}, {-4097, -4096, -2000}, {3, -1, -300}}
	for k := range 8 {
		var places []int
		for r := range 3 {
			p := r + 2
			if k>>r&1 != 0 {
				p = -1 - r
			}
			places = append(places, p)
		}
		l = append(l, places)
	}
	return l
}

var edges = []int64{0, 1, -1, 2, -2, 7, 63, 64, -64, 65, 1 << 31, -1 << 31, 1 << 32, 1<<62 + 12345, math.MaxInt64, math.MinInt64, math.MinInt64 + 1}

var operationNames = []string{"add", "sub", "mul", "mulh", "div", "rem", "and", "or", "xor", "sll", "srl", "sra", "slt", "sltu"}

// 9.1 LBin: each operation at its edges, with registers of every kind; also where it names a register twice.
func TestOperations(t *testing.T) {
	for _, name := range operationNames {
		l := []api.LFn{
			function("main", 0, 3, 0, block()),
			function("other", 2, 3, 0, block(bin(2, name, 0, 1), ret(2))),
			function("first", 2, 3, 0, block(bin(0, name, 0, 1), ret(0))),
			function("second", 2, 3, 0, block(bin(1, name, 0, 1), ret(1))),
			function("both", 2, 3, 0, block(bin(2, name, 0, 0), ret(2))),
			function("all", 2, 3, 0, block(bin(1, name, 1, 1), ret(1))),
		}
		var ins []api.LIns
		for n, x := range edges {
			ins = append(ins, constant(0, x), constant(1, edges[(n*5+3)%len(edges)]))
			for _, f := range l[1:] {
				ins = append(ins, calls(2, f.Name, 0, 1), prints(2))
			}
		}
		l[0].Blocks[0].Ins = append(ins, ret(-1))
		for _, places := range threes() {
			x := items(t, l, func(f api.LFn) []int {
				if f.Name == "main" {
					return byColor(f)
				}
				return places
			})
			wantProgram(t, name, l, x, nil)
		}
	}
}

// 9.1, 9.4 LBin: each operation of all pairs of edges.
func TestOperationsOfAllEdges(t *testing.T) {
	var l []api.LFn
	main := function("main", 0, 0, 0, block())
	for _, name := range operationNames {
		f := function("do_"+name, 0, 3, 0, block())
		for _, x := range edges {
			for _, y := range edges {
				f.Blocks[0].Ins = append(f.Blocks[0].Ins, constant(0, x), constant(1, y), bin(2, name, 0, 1), prints(2))
			}
		}
		f.Blocks[0].Ins = append(f.Blocks[0].Ins, ret(-1))
		l = append(l, f)
		main.Blocks[0].Ins = append(main.Blocks[0].Ins, calls(-1, f.Name))
	}
	main.Blocks[0].Ins = append(main.Blocks[0].Ins, ret(-1))
	l = append([]api.LFn{main}, l...)
	wantProgram(t, "in colours", l, ofProgram(t, l), nil)
	wantProgram(t, "in slots", l, items(t, l, bySlots), nil)
}

// sizes are numbers of all sizes.
func sizes() []int64 {
	l := slices.Clone(edges)
	for k := range 64 {
		n := int64(1) << k
		l = append(l, n, n-1, n+1, -n, -n-1, 3*n, n+2048, n-2048)
	}
	g := rand.New(rand.NewSource(4))
	for range 300 {
		l = append(l, int64(g.Uint64())>>g.Intn(64))
	}
	return l
}

// 9.1 LConst: numbers of all sizes, in a colour and in slots.
func TestConstants(t *testing.T) {
	var l []api.LIns
	for _, n := range sizes() {
		l = append(l, constant(0, n), prints(0), constant(1, n), prints(1), constant(2, n), prints(2))
	}
	main := function("main", 0, 3, 0)
	for part := range slices.Chunk(l, 3000) {
		main.Blocks = append(main.Blocks, block(append(slices.Clone(part), jump(len(main.Blocks)+1))...))
	}
	main.Blocks = append(main.Blocks, block(ret(-1)))
	wantProgram(t, "numbers", []api.LFn{main}, items(t, []api.LFn{main}, given("main", 5, -1, -4000)), nil)
}

// 9.1 LMove: between colours and slots of all kinds, to itself, and joined.
func TestMoves(t *testing.T) {
	chain := function("chain", 1, 3, 0, block(move(1, 0), move(1, 1), move(2, 1), bin(2, "add", 2, 1), ret(2)))
	swap := function("swap", 2, 3, 0, block(move(2, 0), move(0, 1), move(1, 2), bin(1, "sub", 0, 1), ret(1)))
	for _, places := range append(threes(), []int{6, 6, 6}, []int{-1, -1, -1}, []int{-4097, -4097, 2}, []int{4, 4, -500}) {
		for _, f := range []api.LFn{chain, swap} {
			if color.Check(f, color.Colors, places) == api.OK {
				b := onBench(t, items(t, []api.LFn{f}, given(f.Name, places...)))
				b.wantFunction(f.Name, []api.LFn{f}, f.Name, nil, []int64{21, 100}[:f.Params]...)
			}
		}
	}
}

// 9.1 LLoad, LStore: near and far, both ways; the word itself, and no other one, is changed.
func TestLoadsAndStores(t *testing.T) {
	offsets := []int64{0, 8, -8, 2032, 2040, 2048, 2056, -2040, -2048, -2056, -2064, 4096, -4096, 1 << 20, -1 << 20, 1<<31 - 2048, 1<<31 - 8, -1 << 31, -1<<31 + 8, -1<<31 + 2048}
	var b api.LBlock
	for k, n := range offsets {
		// The word is the frame's middle one of three: r0 its address less n.
		b.Ins = append(b.Ins, frame(0, 1), constant(1, n), bin(0, "sub", 0, 1), constant(1, int64(1000+k)), store(0, n, 1), load(2, 0, n), prints(2), load(0, 0, n), prints(0), frame(1, 0), load(0, 1, 0), prints(0), load(1, 1, 16), prints(1), frame(2, 1), load(2, 2, 0), prints(2))
	}
	b.Ins = append(b.Ins, ret(-1))
	l := []api.LFn{function("main", 0, 3, 3, b)}
	for k, places := range threes() {
		if color.Check(l[0], color.Colors, places) == api.OK {
			wantProgram(t, "places "+strconv.Itoa(k), l, items(t, l, given("main", places...)), nil)
		}
	}
	wantAllPlaces(t, "near and far", l, nil)
}

// fills is a function that puts its parameter in each word of its frame, and answers the sum of what it found there ahead of it.
func fills(name string, words int) api.LFn {
	return function(name, 1, 8, words,
		block(frame(1, 0), constant(2, int64(words)), constant(3, 8), constant(6, 0), constant(7, 1), jump(1)),
		block(load(4, 1, 0), bin(6, "or", 6, 4), store(1, 0, 0), load(4, 1, 0), bin(5, "sub", 4, 0), bin(6, "or", 6, 5), bin(1, "add", 1, 3), bin(2, "sub", 2, 7), branch(2, 1, 2)),
		block(ret(6)))
}

// 9.1 LFrame: frames of 0, 1 and as many words as may be: all 0 at each call, each word its own, at a multiple of 8, one behind the other.
func TestFrames(t *testing.T) {
	l := []api.LFn{function("main", 0, 2, 0, block())}
	ins := []api.LIns{constant(0, -1)}
	for _, words := range []int{1, 2, 3, 5, 16, 255, 256, 257, 1000, lir.MaxFrame} {
		f := fills("fill"+strconv.Itoa(words), words)
		ins = append(ins, calls(1, f.Name, 0), prints(1), calls(1, f.Name, 0), prints(1))
		l = append(l, f)
	}
	none := function("none", 0, 1, 0, block(constant(0, 5), ret(0)))
	each := function("each", 0, 3, 40, block())
	for n := range int64(40) {
		each.Blocks[0].Ins = append(each.Blocks[0].Ins, frame(0, n), constant(1, 100+n), store(0, 0, 1))
	}
	for n := range int64(40) {
		each.Blocks[0].Ins = append(each.Blocks[0].Ins, frame(0, 0), load(1, 0, 8*n), prints(1), frame(2, n), bin(2, "sub", 2, 0), prints(2), constant(1, 7), bin(0, "and", 0, 1), prints(0))
	}
	each.Blocks[0].Ins = append(each.Blocks[0].Ins, calls(1, "fill3", 1), frame(0, 39), load(1, 0, 0), prints(1), ret(-1))
	l = append(l, none, each)
	ins = append(ins, calls(1, "none"), prints(1), calls(1, "each"), prints(1), ret(-1))
	l[0].Blocks[0].Ins = ins
	wantAllPlaces(t, "frames", l, nil)
}

// weighs is a function that answers a sum in which each parameter has a weight of its own.
func weighs(params int) api.LFn {
	f := function("weigh"+strconv.Itoa(params), params, params+3, 0, block())
	w, t, s := params, params+1, params+2
	l := []api.LIns{constant(s, int64(params))}
	for p := range params {
		l = append(l, constant(w, int64(p)*1000+7), bin(t, "mul", p, w), bin(s, "add", s, t))
	}
	f.Blocks[0].Ins = append(l, ret(s))
	return f
}

// 9.1, 9.4 LCall: 0 to MaxParams + 1 arguments, in any order, some of them the same; answers that are taken and that are let go.
func TestArguments(t *testing.T) {
	g := rand.New(rand.NewSource(5))
	l := []api.LFn{function("main", 0, 10, 0, block())}
	var ins []api.LIns
	for r := range 10 {
		ins = append(ins, constant(r, int64(r*r+1)))
	}
	for params := range api.MaxParams + 2 {
		l = append(l, weighs(params))
		for k := range 12 {
			var args []int
			for p := range params {
				args = append(args, []int{p, params - 1 - p, (p + 1) % params, g.Intn(8), 3}[min(k, 4)%5])
				if k > 4 {
					args[p] = g.Intn(10)
				}
			}
			ins = append(ins, calls(8+g.Intn(2), weighs(params).Name, args...), prints(8), prints(9), calls(-1, weighs(params).Name, args...), calls(g.Intn(3), weighs(params).Name, args...))
		}
	}
	for r := range 10 {
		ins = append(ins, prints(r))
	}
	l[0].Blocks[0].Ins = append(ins, ret(-1))
	wantAllPlaces(t, "arguments", l, nil)
	for seed := range int64(20) {
		wantProgram(t, "any places", l, items(t, l, byChance(rand.New(rand.NewSource(seed)), int(seed%4), 50)), nil)
	}
}

// 9.1, 9.4 LCall: parameters that are handed on in any order, and nothing is live behind the call: from any colours and slots.
func TestHandedOn(t *testing.T) {
	g := rand.New(rand.NewSource(15))
	for n := range 400 {
		params := 1 + g.Intn(api.MaxParams+1)
		to := weighs(g.Intn(api.MaxParams + 2))
		var args []int
		for range to.Params {
			args = append(args, g.Intn(params))
		}
		if to.Params == params && n%2 == 0 {
			args = g.Perm(params)
		}
		from := function("from", params, params, 0, block(calls(0, to.Name, args...), ret(0)))
		l := []api.LFn{from, to}
		var numbers []int64
		for range params {
			numbers = append(numbers, g.Int63())
		}
		onBench(t, items(t, l, byChance(g, g.Intn(4), 30))).wantFunction("handed on "+strconv.Itoa(n), l, "from", nil, numbers...)
	}
}

// 9.1: a function that calls none has its parameters in any order of colours.
func TestParametersAnywhere(t *testing.T) {
	g := rand.New(rand.NewSource(6))
	for range 200 {
		f := weighs(g.Intn(api.MaxParams + 2))
		b := onBench(t, items(t, []api.LFn{f}, byChance(g, g.Intn(4), 30)))
		var args []int64
		for range f.Params {
			args = append(args, g.Int63())
		}
		b.wantFunction("parameters", []api.LFn{f}, f.Name, nil, args...)
	}
}

// 9.1 LRet: with a register of every kind, and with none: 0.
func TestReturns(t *testing.T) {
	l := []api.LFn{
		function("zero", 1, 1, 0, block(ret(-1))),
		function("same", 1, 1, 0, block(ret(0))),
		function("framed", 1, 2, 9, block(ret(0))),
		function("unset", 1, 2, 300, block(ret(1))),
	}
	for k, choose := range append(choosers(rand.New(rand.NewSource(7))), func(f api.LFn) []int { return []int{11, 0}[:f.Regs] }, func(f api.LFn) []int { return []int{-900, -901}[:f.Regs] }) {
		b := onBench(t, items(t, l, choose))
		for _, f := range l {
			b.wantFunction(f.Name+strconv.Itoa(k), l, f.Name, nil, 77)
		}
	}
}

// 9.1 LIf, LJump: both ways, to the next block, ahead and back, to one block by both; numbers that are not 0 in any bit.
func TestBranches(t *testing.T) {
	blocks := func(to, other int) api.LFn {
		return function("if"+strconv.Itoa(to)+strconv.Itoa(other), 2, 3, 0,
			block(jump(2)),
			block(constant(2, 11), ret(2)),
			block(branch(0, to, other)),
			block(constant(2, 33), ret(2)),
			block(constant(2, 44), ret(2)),
			block(constant(2, 55), jump(3)))
	}
	var l []api.LFn
	for _, to := range []int{1, 3, 4, 5} {
		for _, other := range []int{1, 3, 4, 5} {
			l = append(l, blocks(to, other))
		}
	}
	for _, choose := range []chooser{byColor, bySlots, func(api.LFn) []int { return []int{-3000, 4, -2999} }} {
		b := onBench(t, items(t, l, choose))
		for _, f := range l {
			for _, n := range []int64{0, 1, -1, 2, 256, 1 << 32, math.MinInt64, math.MaxInt64} {
				b.wantFunction(f.Name, l, f.Name, nil, n, 0)
			}
		}
	}
	loop := function("loop", 1, 3, 0, block(constant(1, 1), bin(2, "add", 2, 0), bin(0, "sub", 0, 1), branch(0, 0, 1)), block(ret(2)))
	for _, choose := range choosers(rand.New(rand.NewSource(8))) {
		onBench(t, items(t, []api.LFn{loop}, choose)).wantFunction("back to the first block", []api.LFn{loop}, "loop", nil, 100)
	}
}

// wide is a function that jumps and branches ahead and back over so many blocks of so many instructions, with something in twelve registers all the while.
func wide(blocks, each int) api.LFn {
	end := blocks + 2
	f := function("wide", 2, 12, 0, block(), block(bin(2, "mul", 2, 4), branch(0, end+1, 2)))
	for r := 2; r < 12; r++ {
		f.Blocks[0].Ins = append(f.Blocks[0].Ins, constant(r, int64(r)))
	}
	f.Blocks[0].Ins = append(f.Blocks[0].Ins, constant(5, 0), jump(end))
	for n := range blocks {
		l := append(slices.Repeat([]api.LIns{bin(2, "add", 2, 3)}, each), constant(1, 0), jump(n+3))
		f.Blocks = append(f.Blocks, block(l...))
	}
	last := []api.LIns{bin(2, "add", 2, 0), bin(2, "add", 2, 1)}
	for r := 3; r < 12; r++ {
		last = append(last, bin(2, "mul", 2, r), bin(2, "xor", 2, r))
	}
	f.Blocks = append(f.Blocks, block(bin(2, "add", 2, 3), branch(1, 1, end+1)), block(branch(5, end+2, end+3)), block(append(last, ret(2))...), block(constant(5, 1), jump(1)))
	return f
}

// 9.1: jumps, branches and calls that are far: over more than a branch reaches, and over more than a jump does. What stands in registers stays.
func TestFarJumps(t *testing.T) {
	early := function("early", 1, 1, 0, block(calls(0, "late", 0), ret(0)))
	late := function("late", 1, 2, 50, block(constant(1, 3), bin(0, "mul", 0, 1), prints(0), calls(1, "wide", 0, 0), bin(0, "add", 0, 1), ret(0)))
	for _, c := range []struct {
		blocks, each int
		choose       chooser
	}{{1, 1, byColor}, {10, 500, byColor}, {400, 1000, byColor}, {10, 500, bySlots}, {400, 200, bySlots}} {
		l := []api.LFn{early, wide(c.blocks, c.each), late}
		b := onBench(t, items(t, l, c.choose))
		for _, args := range [][]int64{{0, 0}, {0, 1}, {1, 0}, {1, 1}, {-7, 1 << 40}} {
			b.wantLong("wide "+strconv.Itoa(c.blocks), l, "wide", args...)
		}
		b.wantLong("early "+strconv.Itoa(c.blocks), l, "early", 5)
	}
}

// wantLong is wantFunction of one that takes long, and must end.
func (b *bench) wantLong(what string, l []api.LFn, name string, args ...int64) {
	b.t.Helper()
	o, e := lir.Run(asked(l, name, args), nil, 3_000_000)
	if e != api.OK || o.End != api.EndDone {
		b.t.Fatal(what, e, o.End)
	}
	c := b.call(name, args, nil, top, floor)
	if got := string(c.after.Out) + strconv.FormatInt(int64(c.after.Regs[10]), 10) + "\n"; !c.came || got != string(o.Out) {
		b.t.Errorf("%s of %v: came %v with %q, not %q", what, args, c.came, got, o.Out)
	}
	b.wantKept(what, c)
}

// 9.1 LTrap: all codes end the program at once.
func TestTraps(t *testing.T) {
	for n := range int64(256) {
		f := function("f", 1, 1, int(n%3), block(prints(0), trap(n)))
		c := onBench(t, items(t, []api.LFn{f}, byColor)).call("f", []int64{n}, nil, top, floor)
		s := c.after
		if !s.Halted || s.Code != int(n) || s.Fault != api.OK || s.Regs[10] != uint64(n) || s.Regs[17] != 93 || string(s.Out) != strconv.Itoa(int(n))+"\n" {
			t.Error(n, s.Halted, s.Code, s.Fault, string(s.Out))
		}
	}
}

// 9.1: registers that are read ahead of being set are 0, whatever the machine's had; also those that share a place, and those that only some ways set.
func TestUnsetRegisters(t *testing.T) {
	all := function("all", 3, 30, 0, block())
	for r := range 30 {
		all.Blocks[0].Ins = append(all.Blocks[0].Ins, prints(r))
	}
	all.Blocks[0].Ins = append(all.Blocks[0].Ins, ret(29))
	some := function("some", 1, 4, 0,
		block(branch(0, 1, 2)),
		block(constant(1, 9), move(2, 1), jump(2)),
		block(bin(3, "add", 3, 1), bin(3, "add", 3, 2), ret(3)))
	l := []api.LFn{all, some}
	for k, choose := range choosers(rand.New(rand.NewSource(9))) {
		b := onBench(t, items(t, l, choose))
		b.wantFunction("all "+strconv.Itoa(k), l, "all", nil, 5, 6, 7)
		b.wantFunction("some "+strconv.Itoa(k), l, "some", nil, 0)
		b.wantFunction("some "+strconv.Itoa(k), l, "some", nil, 1)
	}
	shared := function("shared", 1, 3, 0, block(branch(0, 1, 2)), block(ret(1)), block(ret(2)))
	for _, place := range []int{1, -1, 11} {
		b := onBench(t, items(t, []api.LFn{shared}, given("shared", 0, place, place)))
		b.wantFunction("shared", []api.LFn{shared}, "shared", nil, 0)
		b.wantFunction("shared", []api.LFn{shared}, "shared", nil, 1)
	}
}

// crowd is a function with so many registers that are all live across a call and clash.
func crowd(name string, regs int) api.LFn {
	f := function(name, 1, regs, 0, block())
	var l []api.LIns
	for r := 1; r < regs; r++ {
		l = append(l, constant(r, int64(3*r+1)), bin(r, "add", r, 0))
	}
	l = append(l, calls(0, "rt.print", 0))
	for r := 1; r < regs; r++ {
		l = append(l, bin(0, "xor", 0, r), bin(0, "add", 0, r))
	}
	f.Blocks[0].Ins = append(l, ret(0))
	return f
}

// 9.1: kept registers are kept, by functions that use few and all of them; values stay across calls; many slots.
func TestCrowds(t *testing.T) {
	for _, regs := range []int{1, 2, 3, 11, 12, 13, 14, 30, 100, 270, 600} {
		f := crowd("crowd", regs)
		outer := function("outer", 1, 14, 0, block())
		for r := 1; r < 14; r++ {
			outer.Blocks[0].Ins = append(outer.Blocks[0].Ins, constant(r, int64(r)))
		}
		outer.Blocks[0].Ins = append(outer.Blocks[0].Ins, calls(0, "crowd", 0))
		for r := range 14 {
			outer.Blocks[0].Ins = append(outer.Blocks[0].Ins, prints(r))
		}
		outer.Blocks[0].Ins = append(outer.Blocks[0].Ins, ret(13))
		l := []api.LFn{f, outer}
		for k, choose := range choosers(rand.New(rand.NewSource(10))) {
			b := onBench(t, items(t, l, choose))
			what := strconv.Itoa(regs) + " registers, places " + strconv.Itoa(k)
			b.wantFunction(what, l, "crowd", nil, 1000)
			b.wantFunction(what, l, "outer", nil, -5)
		}
	}
}

// 9.1: as many registers, slots and words as there may be, in one function.
func TestGreatest(t *testing.T) {
	f := crowd("great", lir.MaxRegs/2)
	f.Frame = lir.MaxFrame
	f.Blocks[0].Ins = append([]api.LIns{frame(1, lir.MaxFrame-1), store(1, 0, 0), load(0, 1, 0)}, f.Blocks[0].Ins...)
	if n := len(f.Blocks[0].Ins); n > lir.MaxIns {
		l := f.Blocks[0].Ins
		f.Blocks = []api.LBlock{block(append(slices.Clone(l[:4000]), jump(1))...), block(append(slices.Clone(l[4000:8000]), jump(2))...), block(l[8000:]...)}
	}
	f.Regs = lir.MaxRegs
	places := byGreedy(f)
	places[0], places[f.Regs-1] = -1-color.MaxSlots, -color.MaxSlots
	onBench(t, items(t, []api.LFn{f}, given("great", places...))).wantFunction("great", []api.LFn{f}, "great", nil, 12)
}

// framed are functions with frames of all sizes, which call none but the runtime's.
func framed() []api.LFn {
	return []api.LFn{
		function("leaf", 1, 1, 0, block(ret(0))),
		function("one", 1, 1, 1, block(ret(0))),
		function("words", 1, 2, 39, block(frame(1, 38), store(1, 0, 0), load(0, 1, 0), ret(0))),
		function("most", 1, 2, lir.MaxFrame, block(frame(1, 0), store(1, 0, 0), load(0, 1, 0), ret(0))),
		function("calls", 1, 2, 0, block(calls(1, "rt.print", 0), bin(0, "add", 0, 1), ret(0))),
		function("both", 1, 3, 2, block(calls(1, "rt.print", 0), frame(2, 1), store(2, 0, 0), load(1, 2, 0), bin(0, "add", 0, 1), ret(0))),
		crowd("crowd", 7), crowd("crowded", 40),
	}
}

// deepest steps through a call with much room, and tells how far down the stack's top came. It is a multiple of 16, and above the limit, all the while.
func (b *bench) deepest(what, name string) uint64 {
	b.t.Helper()
	m := b.machine(name, []int64{9}, nil, top, floor)
	least := uint64(top)
	for m.Run(1) == 1 {
		x2 := m.State().Regs[2]
		if x2%16 != 0 || x2 < floor {
			b.t.Fatalf("%s: x2 is %x", what, x2)
		}
		least = min(least, x2)
	}
	return top - least
}

// 9.1: where the frame would make x2 lesser than x3, rt.stack is come to, and no memory was changed; where it would not, it goes on, and nothing below x3 is changed.
func TestStackEnd(t *testing.T) {
	for k, choose := range choosers(rand.New(rand.NewSource(11))) {
		b := onBench(t, items(t, framed(), choose))
		for _, f := range framed() {
			what := f.Name + ", places " + strconv.Itoa(k)
			size := b.deepest(what, f.Name)
			for _, room := range []uint64{size, size + 1, size + 16, size + 4096} {
				c := b.call(f.Name, []int64{9}, nil, top, top-room)
				if !c.came {
					t.Errorf("%s of %d, room %d: halted %v, code %d, fault %v", what, size, room, c.after.Halted, c.after.Code, c.after.Fault)
				}
				b.wantKept(what, c)
				b.wantUntouchedBelow(what, c, top-room)
			}
			if size == 0 {
				continue
			}
			for _, room := range []uint64{0, 1, size / 2, size - 16, size - 1} {
				c := b.call(f.Name, []int64{9}, nil, top, top-room)
				if !c.after.Halted || c.after.Code != api.ExitStack || len(c.after.Out) > 0 {
					t.Errorf("%s of %d, room %d: halted %v, code %d, fault %v", what, size, room, c.after.Halted, c.after.Code, c.after.Fault)
				}
				b.wantAlone(what, c, 0)
			}
		}
	}
}

// Frames of all numbers of words and slots leave the stack's top at a multiple of 16.
func TestStackIsEven(t *testing.T) {
	for words := range 5 {
		for slots := range 5 {
			f := crowd("f", slots+1)
			f.Frame = words
			onBench(t, items(t, []api.LFn{f}, bySlots)).deepest(strconv.Itoa(words)+" words", "f")
			onBench(t, items(t, []api.LFn{f}, byColor)).deepest(strconv.Itoa(words)+" words", "f")
		}
	}
}

// Nobody changes the stack's limit, and x4 is not used (chapter 10).
func TestRegistersOfNobody(t *testing.T) {
	for _, choose := range choosers(rand.New(rand.NewSource(14))) {
		for _, x := range items(t, append(framed(), everything("f")), choose) {
			i := x.I
			if i.Rd == 3 || i.Rd == 4 || i.Rs1 == 4 || i.Rs2 == 4 {
				t.Error(x)
			}
		}
	}
}

// wantUntouchedBelow holds the stack's bytes below an address to what they were.
func (b *bench) wantUntouchedBelow(what string, c called, end uint64) {
	b.t.Helper()
	for n, p := range c.pages {
		for k := range p.Bytes {
			if at := p.Base + uint64(k); at >= rt.StackBase && at < end && p.Bytes[k] != b.pages[n].Bytes[k] {
				b.t.Errorf("%s: changed below the limit, at %x", what, at)
				return
			}
		}
	}
}

// 9.1: the stack's top lies just above the limit, and both near 0: the room is not told by a number that goes round.
func TestStackEndNearNought(t *testing.T) {
	f := function("f", 1, 1, 1000, block(ret(0)))
	l, _ := emit.Function(f, []int{0})
	c := onBench(t, l).call("f", []int64{1}, nil, 4096, 4080)
	if !c.after.Halted || c.after.Code != api.ExitStack {
		t.Error(c.after.Halted, c.after.Code, c.after.Fault)
	}
}

// 9.1: a frame is one call's alone: words that are lent to calls within stay, and the calls' own are others.
func TestLentWords(t *testing.T) {
	// down puts its number in a word of its own, lends it, and adds what the deeper one made of its caller's word.
	down := function("down", 2, 6, 2,
		block(frame(2, 1), store(2, 0, 0), load(3, 1, 0), constant(4, 100), bin(3, "add", 3, 4), store(1, 0, 3), branch(0, 1, 2)),
		block(constant(4, 1), bin(4, "sub", 0, 4), calls(5, "down", 4, 2), load(3, 2, 0), prints(3), bin(5, "add", 5, 3), ret(5)),
		block(load(3, 2, 0), ret(3)))
	main := function("main", 0, 3, 1, block(frame(0, 0), constant(1, 8), store(0, 0, 1), calls(2, "down", 1, 0), prints(2), load(2, 0, 0), prints(2), ret(-1)))
	wantAllPlaces(t, "lent words", []api.LFn{main, down}, nil)
}
