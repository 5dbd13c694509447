package live

import (
	"math"
	"math/rand"
	"reflect"
	"slices"
	"testing"
	"time"

	"patina/api"
	"patina/lir"
)

func sameLists(a, b [][]int) bool { return slices.EqualFunc(a, b, slices.Equal[[]int]) }

func wantIn(t *testing.T, f api.LFn, want ...[]int) {
	t.Helper()
	if l, e := In(f); e != api.OK || !sameLists(l, want) {
		t.Errorf("In: %v, %v, not %v", l, e, want)
	}
}

func wantAt(t *testing.T, f api.LFn, block, i int, want ...int) {
	t.Helper()
	if l, e := At(f, block, i); e != api.OK || !slices.Equal(l, want) {
		t.Errorf("At %d %d: %v, %v, not %v", block, i, l, e, want)
	}
}

func wantClash(t *testing.T, f api.LFn, want ...[2]int) {
	t.Helper()
	if l, e := Clash(f); e != api.OK || !slices.Equal(l, want) {
		t.Errorf("Clash: %v, %v, not %v", l, e, want)
	}
}

func wantMoves(t *testing.T, f api.LFn, want ...[2]int) {
	t.Helper()
	if l, e := Moves(f); e != api.OK || !slices.Equal(l, want) {
		t.Errorf("Moves: %v, %v, not %v", l, e, want)
	}
}

func wantAcross(t *testing.T, f api.LFn, want ...int) {
	t.Helper()
	if l, e := Across(f); e != api.OK || !slices.Equal(l, want) {
		t.Errorf("Across: %v, %v, not %v", l, e, want)
	}
}

// The chapter's examples.
func TestExamples(t *testing.T) {
	f := function(1, 3, block(constant(1, 5), add(2, 0, 1), ret(2)))
	wantIn(t, f, []int{0})
	wantClash(t, f, [2]int{0, 1})
	f = function(1, 3, block(move(1, 0), add(2, 0, 1), ret(2)))
	wantIn(t, f, []int{0})
	wantClash(t, f)
	wantMoves(t, f, [2]int{0, 1})
}

// 7.1: what each operation uses and sets; fields that it has not are not looked at.
func TestUsesAndSets(t *testing.T) {
	full := api.LIns{D: 5, A: 4, B: 3, N: 2, Name: "g", Args: []int{9, 0, 9, 7}, To: 1, Else: 6}
	for _, c := range []struct {
		op, sets int
		uses     []int
	}{
		{api.LConst, 5, nil}, {api.LMove, 5, []int{4}}, {api.LBin, 5, []int{3, 4}}, {api.LLoad, 5, []int{4}}, {api.LStore, -1, []int{3, 4}},
		{api.LFrame, 5, nil}, {api.LCall, 5, []int{0, 7, 9}}, {api.LJump, -1, nil}, {api.LIf, -1, []int{4}}, {api.LRet, -1, []int{4}}, {api.LTrap, -1, nil},
		{0, -1, nil}, {12, -1, nil}, {-1, -1, nil}, {-7, -1, nil}, {math.MaxInt, -1, nil}, {math.MinInt, -1, nil},
	} {
		i := full
		i.Op = c.op
		if l, r := Uses(i), Sets(i); !slices.Equal(l, c.uses) || r != c.sets {
			t.Errorf("Op %d: uses %v, sets %d, not %v, %d", c.op, l, r, c.uses, c.sets)
		}
	}
	for _, c := range []struct {
		i    api.LIns
		sets int
		uses []int
	}{
		{add(1, 2, 2), 1, []int{2}}, {add(2, 2, 1), 2, []int{1, 2}}, {store(3, 3), -1, []int{3}}, {store(1, 2), -1, []int{1, 2}}, {move(4, 4), 4, []int{4}},
		{calls(-1, 3, 2, 3, 2), -1, []int{2, 3}}, {calls(0), 0, nil}, {calls(2, 2), 2, []int{2}}, {ret(-1), -1, nil}, {ret(0), -1, []int{0}},
		{constant(0, -1), 0, nil},
		// Numbers that no register has are told as they stand.
		{constant(-5, 1), -5, nil}, {move(math.MaxInt, math.MinInt), math.MaxInt, []int{math.MinInt}}, {add(-1, -1, -2), -1, []int{-2, -1}},
		{calls(-9, 5, -1, 5), -9, []int{-1, 5}}, {ret(-2), -1, []int{-2}}, {branch(-1, 0, 0), -1, []int{-1}},
	} {
		if l, r := Uses(c.i), Sets(c.i); !slices.Equal(l, c.uses) || r != c.sets {
			t.Errorf("%v: uses %v, sets %d, not %v, %d", c.i, l, r, c.uses, c.sets)
		}
	}
}

// R3: what Uses tells is its own, and an instruction's arguments stay as they are.
func TestUsesSharesNothing(t *testing.T) {
	room := []int{3, 1, 3, 2, 77}
	i := calls(0, room[:4]...)
	l := Uses(i)
	l = l[:cap(l)]
	for k := range l {
		l[k] = 1000
	}
	if !slices.Equal(room, []int{3, 1, 3, 2, 77}) || !slices.Equal(Uses(i), []int{1, 2, 3}) {
		t.Error(room, Uses(i))
	}
}

// R1, R4: functions that are not right, and places that are none.
func TestErrors(t *testing.T) {
	good := function(1, 2, block(constant(1, 5), jump(1)), block(add(1, 1, 0), calls(-1), ret(1)))
	for what, change := range map[string]func(f *api.LFn){
		"no name":          func(f *api.LFn) { f.Name = "" },
		"too few regs":     func(f *api.LFn) { f.Regs = 0 },
		"negative regs":    func(f *api.LFn) { f.Regs = -1 },
		"too many regs":    func(f *api.LFn) { f.Regs = lir.MaxRegs + 1 },
		"negative params":  func(f *api.LFn) { f.Params = -1 },
		"too many params":  func(f *api.LFn) { f.Params, f.Regs = 8, 8 },
		"no blocks":        func(f *api.LFn) { f.Blocks = nil },
		"an empty block":   func(f *api.LFn) { f.Blocks[1].Ins = nil },
		"no end":           func(f *api.LFn) { f.Blocks[1].Ins = f.Blocks[1].Ins[:1] },
		"no such register": func(f *api.LFn) { f.Blocks[0].Ins[0].D = 2 },
		"a negative D":     func(f *api.LFn) { f.Blocks[0].Ins[0].D = -1 },
		"no such block":    func(f *api.LFn) { f.Blocks[0].Ins[1].To = 2 },
		"no such op":       func(f *api.LFn) { f.Blocks[0].Ins[0].Op = 12 },
	} {
		f := good
		f.Blocks = []api.LBlock{{Ins: slices.Clone(good.Blocks[0].Ins)}, {Ins: slices.Clone(good.Blocks[1].Ins)}}
		change(&f)
		if l, e := In(f); e != api.ErrLir || len(l) != 0 {
			t.Errorf("%s: In: %v, %v", what, l, e)
		}
		for _, at := range [][2]int{{0, 0}, {-1, 0}, {0, 99}} {
			if l, e := At(f, at[0], at[1]); e != api.ErrLir || len(l) != 0 {
				t.Errorf("%s: At %v: %v, %v", what, at, l, e)
			}
		}
		if l, e := Clash(f); e != api.ErrLir || len(l) != 0 {
			t.Errorf("%s: Clash: %v, %v", what, l, e)
		}
		if l, e := Moves(f); e != api.ErrLir || len(l) != 0 {
			t.Errorf("%s: Moves: %v, %v", what, l, e)
		}
		if l, e := Across(f); e != api.ErrLir || len(l) != 0 {
			t.Errorf("%s: Across: %v, %v", what, l, e)
		}
	}
	for _, at := range [][2]int{{-1, 0}, {2, 0}, {0, -1}, {0, 2}, {1, 3}, {1, -1}, {math.MinInt, 0}, {math.MaxInt, 0}, {0, math.MinInt}, {0, math.MaxInt}, {-1, -1}} {
		if l, e := At(good, at[0], at[1]); e != api.ErrNone || len(l) != 0 {
			t.Errorf("At %v: %v, %v", at, l, e)
		}
	}
	wantAt(t, good, 0, 0, 0)
	wantAt(t, good, 0, 1, 0, 1)
	wantAt(t, good, 1, 2, 1)
}

// 7.1: loops, blocks that nothing comes to, and instructions that use and set one register.
func TestLiveByHand(t *testing.T) {
	// A sum over a counter: both live round the loop, and what stands ahead of it lives through.
	f := function(2, 5,
		block(constant(2, 0), jump(1)),
		block(branch(0, 2, 3)),
		block(add(2, 2, 0), constant(3, -1), add(0, 0, 3), jump(1)),
		block(add(4, 2, 1), ret(4)),
		block(move(1, 4), branch(3, 1, 4)), // nothing comes to it
		block(constant(3, 1), trap()),      // nor to this one
	)
	wantIn(t, f, []int{0, 1}, []int{0, 1, 2}, []int{0, 1, 2}, []int{1, 2}, []int{0, 2, 3, 4}, nil)
	wantAt(t, f, 0, 0, 0, 1)
	wantAt(t, f, 0, 1, 0, 1, 2)
	wantAt(t, f, 2, 1, 0, 1, 2)
	wantAt(t, f, 2, 2, 0, 1, 2, 3)
	wantAt(t, f, 2, 3, 0, 1, 2)
	wantAt(t, f, 3, 1, 4)
	wantAt(t, f, 4, 0, 0, 2, 3, 4)
	wantAt(t, f, 4, 1, 0, 1, 2, 3, 4)
	wantAt(t, f, 5, 1)
	// One that uses and sets: live ahead of it, and behind it just if used again.
	f = function(0, 2, block(add(0, 0, 0), move(1, 0), move(1, 1), calls(1, 1), trap()))
	wantIn(t, f, []int{0})
	wantAt(t, f, 0, 1, 0)
	wantAt(t, f, 0, 2, 1)
	wantAt(t, f, 0, 3, 1)
	wantAt(t, f, 0, 4)
	// A set on one way alone leaves it live on the other one.
	f = function(0, 2, block(branch(1, 1, 2)), block(constant(0, 1), jump(2)), block(ret(0)))
	wantIn(t, f, []int{0, 1}, nil, []int{0})
	// A loop that never ends, of one block that comes to itself, and one without any use.
	wantIn(t, function(0, 2, block(move(0, 1), jump(0))), []int{1})
	wantIn(t, function(1, 1, block(jump(0))), nil)
	wantIn(t, function(0, 0, block(ret(-1))), nil)
	// A long way back, against the order of the blocks.
	wantIn(t, function(0, 1, block(jump(3)), block(ret(0)), block(jump(1)), block(jump(2))), []int{0}, []int{0}, []int{0}, []int{0})
}

// 7.2: each rule of clashes by itself.
func TestClashByHand(t *testing.T) {
	// By a set, also of one that is never used.
	wantClash(t, function(0, 3, block(constant(2, 1), constant(0, 7), store(2, 2), trap())), [2]int{0, 2})
	wantClash(t, function(0, 3, block(constant(2, 1), store(2, 2), constant(0, 7), trap())))
	// A set of what is live itself is no clash with itself.
	wantClash(t, function(0, 1, block(constant(0, 1), add(0, 0, 0), ret(0))))
	// A call that sets, and one that does not.
	wantClash(t, function(0, 2, block(calls(0), ret(1))), [2]int{0, 1})
	wantClash(t, function(0, 2, block(calls(-1), ret(1))))
	// Loads and addresses of the frame set too.
	wantClash(t, function(0, 3, block(load(0, 1), frame(2), ret(1))), [2]int{0, 1}, [2]int{1, 2})
	// A move clashes not with what it moves, but with all else that is live; and what it moves may clash by another set.
	wantClash(t, function(0, 3, block(move(0, 1), calls(-1, 0, 1, 2), trap())), [2]int{0, 2})
	wantClash(t, function(0, 3, block(move(0, 1), constant(0, 1), calls(-1, 0, 1), trap())), [2]int{0, 1})
	wantClash(t, function(0, 3, block(constant(0, 1), calls(-1, 0), move(0, 1), calls(-1, 0, 1), trap())), [2]int{0, 1})
	wantClash(t, function(0, 3, block(move(0, 1), constant(1, 1), calls(-1, 0, 1), trap())), [2]int{0, 1})
	// The other way: A is set while D is live.
	wantClash(t, function(0, 2, block(move(1, 0), move(0, 1), calls(-1, 0, 1), trap())))
	// A move to itself clashes with all that is live but itself.
	wantClash(t, function(0, 3, block(move(1, 1), calls(-1, 0, 1, 2), trap())), [2]int{0, 1}, [2]int{1, 2})
	// Something else with the same A is no move.
	wantClash(t, function(0, 2, block(load(1, 0), ret(0))), [2]int{0, 1})
	// Parameters, used or not.
	wantClash(t, function(3, 4, block(trap())), [2]int{0, 1}, [2]int{0, 2}, [2]int{1, 2})
	wantClash(t, function(1, 4, block(trap())))
	// A parameter and what is live at the beginning, though set nowhere, or later; not what is live in a later block alone.
	wantClash(t, function(1, 3, block(ret(2))), [2]int{0, 2})
	wantClash(t, function(1, 3, block(calls(-1, 2), constant(2, 4), ret(2))), [2]int{0, 2})
	wantClash(t, function(1, 3, block(constant(2, 4), jump(1)), block(ret(2))))
	// Two that are live at the beginning and no parameters do not clash.
	wantClash(t, function(0, 3, block(calls(-1, 0, 1, 2), trap())))
	// Over the beginning of the first block by a loop.
	wantClash(t, function(1, 2, block(calls(-1, 1), constant(1, 0), jump(0))), [2]int{0, 1})
	// In blocks that nothing comes to, too.
	wantClash(t, function(0, 2, block(trap()), block(constant(0, 1), ret(1))), [2]int{0, 1})
}

func TestMovesByHand(t *testing.T) {
	wantMoves(t, function(0, 3, block(trap())))
	wantMoves(t, function(0, 3, block(move(1, 1), add(0, 1, 2), load(2, 1), trap())))
	wantMoves(t, function(0, 4, block(move(3, 1), move(1, 3), move(3, 1), move(2, 0), move(1, 1), trap()), block(move(0, 3), trap())), [2]int{0, 2}, [2]int{0, 3}, [2]int{1, 3})
}

func TestAcrossByHand(t *testing.T) {
	// What it takes and is not used again, and what it sets, do not live across; what it takes and is used again does.
	wantAcross(t, function(0, 5, block(calls(0, 1, 2), calls(-1, 2, 3), store(0, 3), trap())), 0, 2, 3)
	wantAcross(t, function(0, 2, block(calls(0, 0), ret(0))))
	// Set by one call, and living across another one, in either order.
	wantAcross(t, function(0, 2, block(calls(-1), calls(0, 0), ret(0))), 0)
	wantAcross(t, function(0, 2, block(calls(0, 0), calls(-1), ret(0))), 0)
	// The runtime's calls are calls.
	f := function(0, 2, block(api.LIns{Op: api.LCall, D: 1, Name: "rt.read"}, ret(0)))
	wantAcross(t, f, 0)
	// By a loop; and none without a call.
	wantAcross(t, function(0, 2, block(calls(-1), branch(1, 0, 0))), 1)
	wantAcross(t, function(0, 2, block(constant(0, 1), branch(1, 0, 0))))
}

// 7.1 to 7.3, P10: what is told is just what ways through the function ask for, and no more.
func TestModel(t *testing.T) {
	g := rand.New(rand.NewSource(7))
	for n := range 1500 {
		f := someFunction(g, 1+g.Intn(8))
		if n%100 == 0 {
			f = someFunction(g, 60+g.Intn(80)) // over the ends of numbers
		}
		if e := lir.Alone(f); e != api.OK {
			t.Fatal(f, e)
		}
		wantIn(t, f, modelIn(f)...)
		for _, w := range all(f) {
			wantAt(t, f, w.block, w.i, which(f, func(r int) bool { return liveAhead(f, w, r) })...)
			i := w.in(f)
			if l := which(f, func(r int) bool { return usesIt(i, r) }); !slices.Equal(Uses(i), l) {
				t.Error(i, Uses(i), l)
			}
		}
		wantClash(t, f, modelClash(f)...)
		wantMoves(t, f, modelMoves(f)...)
		wantAcross(t, f, modelAcross(f)...)
		if t.Failed() {
			t.Fatal(f)
		}
	}
}

// 7.3: the rules hold of what is told: ahead of each instruction what it uses, and what is live behind it and not set.
func TestRules(t *testing.T) {
	g := rand.New(rand.NewSource(73))
	for range 300 {
		f := someFunction(g, 1+g.Intn(9))
		begin, _ := In(f)
		for _, w := range all(f) {
			var behind []int
			for _, x := range after(f, w) {
				l, _ := At(f, x.block, x.i)
				behind = append(behind, l...)
			}
			want := Uses(w.in(f))
			for _, r := range behind {
				if r != Sets(w.in(f)) {
					want = append(want, r)
				}
			}
			slices.Sort(want)
			wantAt(t, f, w.block, w.i, slices.Compact(want)...)
			if w.i == 0 {
				wantAt(t, f, w.block, 0, begin[w.block]...)
			}
		}
	}
}

// renamed is a function with its registers named anew.
func renamed(f api.LFn, to []int) api.LFn {
	name := func(r int) int {
		if r == -1 {
			return -1
		}
		return to[r]
	}
	x := f
	x.Blocks = nil
	for _, b := range f.Blocks {
		var c api.LBlock
		for _, i := range b.Ins {
			if Sets(i) != -1 {
				i.D = name(i.D)
			}
			switch i.Op {
			case api.LMove, api.LLoad, api.LIf, api.LRet:
				i.A = name(i.A)
			case api.LBin, api.LStore:
				i.A, i.B = name(i.A), name(i.B)
			}
			i.Args = slices.Clone(i.Args)
			for k, r := range i.Args {
				i.Args[k] = name(r)
			}
			c.Ins = append(c.Ins, i)
		}
		x.Blocks = append(x.Blocks, c)
	}
	return x
}

// anew are a function's registers in another order; parameters stay parameters.
func anew(g *rand.Rand, f api.LFn) []int {
	l := g.Perm(f.Params)
	for _, r := range g.Perm(f.Regs - f.Params) {
		l = append(l, f.Params+r)
	}
	return l
}

func namedAnew(l []int, to []int) []int {
	var x []int
	for _, r := range l {
		x = append(x, to[r])
	}
	slices.Sort(x)
	return x
}

func namedPairs(l [][2]int, to []int) [][2]int {
	var x [][2]int
	for _, p := range l {
		a, b := to[p[0]], to[p[1]]
		x = append(x, [2]int{min(a, b), max(a, b)})
	}
	slices.SortFunc(x, func(a, b [2]int) int { return slices.Compare(a[:], b[:]) })
	return x
}

// 7.4: registers that are named anew.
func TestRenaming(t *testing.T) {
	g := rand.New(rand.NewSource(74))
	for range 400 {
		f := someFunction(g, 1+g.Intn(80))
		to := anew(g, f)
		x := renamed(f, to)
		in, _ := In(f)
		for k := range in {
			in[k] = namedAnew(in[k], to)
		}
		wantIn(t, x, in...)
		clash, _ := Clash(f)
		wantClash(t, x, namedPairs(clash, to)...)
		moves, _ := Moves(f)
		wantMoves(t, x, namedPairs(moves, to)...)
		across, _ := Across(f)
		wantAcross(t, x, namedAnew(across, to)...)
	}
}

// 7.4: blocks that nothing comes to, that lead into the function or not, change nothing of what is live in the others, nor, setting nothing, any pair.
func TestAddedBlocks(t *testing.T) {
	g := rand.New(rand.NewSource(75))
	for range 400 {
		regs := 1 + g.Intn(9)
		f := someFunction(g, regs)
		x := f
		x.Blocks = slices.Clone(f.Blocks)
		for range 1 + g.Intn(3) {
			x.Blocks = append(x.Blocks, block(store(g.Intn(regs), g.Intn(regs)), someEnd(g, regs, len(f.Blocks))))
		}
		in, _ := In(f)
		more, e := In(x)
		if e != api.OK || len(more) != len(x.Blocks) || !sameLists(more[:len(in)], in) {
			t.Fatal(f, x, in, more, e)
		}
		clash, _ := Clash(f)
		wantClash(t, x, clash...)
		moves, _ := Moves(f)
		wantMoves(t, x, moves...)
		across, _ := Across(f)
		wantAcross(t, x, across...)
		for k := len(f.Blocks); k < len(x.Blocks); k++ { // what is set there is not seen from the others
			x.Blocks[k] = block(constant(g.Intn(regs), 1), x.Blocks[k].Ins[0], x.Blocks[k].Ins[1])
		}
		if more, _ := In(x); !sameLists(more[:len(in)], in) {
			t.Fatal(f, x, in, more)
		}
		for _, w := range all(f) {
			l, _ := At(f, w.block, w.i)
			wantAt(t, x, w.block, w.i, l...)
		}
	}
}

// copied is a function that shares no memory with another one.
func copied(f api.LFn) api.LFn { return renamed(f, which(f, func(int) bool { return true })) }

// R3, R6: nothing that is handed in is changed, and answers are new each time, and their lists apart.
func TestSharesNothing(t *testing.T) {
	g := rand.New(rand.NewSource(3))
	for range 60 {
		f := someFunction(g, 1+g.Intn(70))
		before := copied(f)
		in, _ := In(f)
		clash, _ := Clash(f)
		moves, _ := Moves(f)
		across, _ := Across(f)
		ahead, _ := At(f, 0, 0)
		for k := range in {
			l := in[k][:cap(in[k])]
			for n := range l {
				l[n] = -k - 1
			}
		}
		for k := range in {
			for _, r := range in[k] {
				if r != -k-1 {
					t.Fatal("lists share memory", in)
				}
			}
		}
		clear(clash[:cap(clash)])
		clear(moves[:cap(moves)])
		clear(across[:cap(across)])
		clear(ahead[:cap(ahead)])
		if !lir.Same([]api.LFn{f}, []api.LFn{before}) {
			t.Fatal("changed", f, before)
		}
		wantIn(t, f, modelIn(f)...)
		wantClash(t, f, modelClash(f)...)
		wantMoves(t, f, modelMoves(f)...)
		wantAcross(t, f, modelAcross(f)...)
		wantAt(t, f, 0, 0, modelIn(f)[0]...)
	}
}

// P1: all registers live at once; the longest way back over all blocks; a function of the greatest block.
func TestGreatest(t *testing.T) {
	start := time.Now()
	regs := lir.MaxRegs
	var b api.LBlock
	for r := range regs / 2 {
		b.Ins = append(b.Ins, constant(2*r, 1), constant(2*r+1, 1))
	}
	b.Ins[regs-1] = jump(1)
	var last api.LBlock
	for r := range regs - 1 {
		last.Ins = append(last.Ins, store(r, r))
	}
	last.Ins = append(last.Ins, ret(regs-1))
	f := function(0, regs, b, last)
	clash, e := Clash(f)
	// The last one is set nowhere, but lives from the beginning on, while all others are set.
	if want := regs * (regs - 1) / 2; e != api.OK || len(clash) != want || clash[want-1] != [2]int{regs - 2, regs - 1} || clash[0] != [2]int{0, 1} {
		t.Error(len(clash), want, e)
	}
	in, _ := In(f)
	if len(in) != 2 || !slices.Equal(in[0], []int{regs - 1}) || len(in[1]) != regs {
		t.Error(len(in))
	}
	var ring []api.LBlock
	for k := range api.MaxBlocks {
		ring = append(ring, block(constant(2*k, 5), branch(2*k+1, (k+api.MaxBlocks-1)%api.MaxBlocks, k)))
	}
	wantAt(t, function(7, regs, ring...), 0, 1, which(function(0, 2*api.MaxBlocks), func(r int) bool { return r%2 == 1 })...)
	if d := time.Since(start); d > time.Minute {
		t.Error(d)
	}
}

// P1: no function whatever makes a call panic.
func TestAnything(t *testing.T) {
	g := rand.New(rand.NewSource(1))
	odd := func() int {
		l := []int{0, 0, 1, 2, -1, -2, 4096, math.MaxInt, math.MinInt, 1 << 33}
		return l[g.Intn(len(l))]
	}
	for range 1000 {
		f := someFunction(g, 1+g.Intn(4))
		switch g.Intn(4) {
		case 0:
			f.Params, f.Regs = odd(), odd()
		case 1:
			f.Blocks = f.Blocks[:g.Intn(len(f.Blocks))]
		default:
			b := f.Blocks[g.Intn(len(f.Blocks))]
			b.Ins[g.Intn(len(b.Ins))] = api.LIns{Op: odd(), D: odd(), A: odd(), B: odd(), Args: []int{odd()}, To: odd(), Else: odd()}
		}
		want := lir.Alone(f)
		_, e1 := In(f)
		_, e2 := Clash(f)
		_, e3 := Moves(f)
		_, e4 := Across(f)
		_, e5 := At(f, odd(), odd())
		if e1 != want || e2 != want || e3 != want || e4 != want || want != api.OK && e5 != want {
			t.Fatal(f, want, e1, e2, e3, e4, e5)
		}
		for _, b := range f.Blocks {
			for _, i := range b.Ins {
				if !reflect.DeepEqual(Uses(i), Uses(i)) || Sets(i) != Sets(i) {
					t.Fatal(i)
				}
			}
		}
	}
}
