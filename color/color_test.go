package color

import (
	"math"
	"math/rand"
	"slices"
	"testing"
	"time"

	"patina/api"
	"patina/lir"
	"patina/live"
)

// two is the chapter's example: r0 and r1 clash.
func two() api.LFn {
	return function("f", 0, 3, block(constant(0, 1), constant(1, 2), bin(2, "add", 0, 1), ret(2)))
}

func wantGreedy(t *testing.T, f api.LFn, k int, want ...int) {
	t.Helper()
	if l, e := Greedy(f, k); e != api.OK || !slices.Equal(l, want) {
		t.Errorf("Greedy of %d: %v, %v, not %v", k, l, e, want)
	}
}

func wantCheck(t *testing.T, f api.LFn, k int, want api.Errno, places ...int) {
	t.Helper()
	if e := Check(f, k, places); e != want {
		t.Errorf("Check of %d, %v: %v, not %v", k, places, e, want)
	}
}

func wantJoined(t *testing.T, f api.LFn, want int, places ...int) {
	t.Helper()
	if n, e := Joined(f, places); e != api.OK || n != want {
		t.Errorf("Joined of %v: %d, %v, not %d", places, n, e, want)
	}
}

// The chapter's examples.
func TestExamples(t *testing.T) {
	wantGreedy(t, two(), 2, 0, 1, 0)
	wantGreedy(t, two(), 1, 0, -1, 0)
	if Colors != 12 || MaxColors != 32 || MaxSlots != 4096 {
		t.Error(Colors, MaxColors, MaxSlots)
	}
}

// R1, R4: errors in their order, each with nothing beside it.
func TestErrors(t *testing.T) {
	bad := two()
	bad.Regs = 2
	for _, f := range []api.LFn{bad, {}, function("", 0, 1, block(trap(0))), function("f", 0, -1, block(trap(0))), function("f", 0, 1)} {
		for _, k := range []int{-1, 0, 1, 12, 32, 33} {
			if l, e := Color(f, k); e != api.ErrLir || len(l) != 0 {
				t.Errorf("Color %d: %v, %v", k, l, e)
			}
			if l, e := Greedy(f, k); e != api.ErrLir || len(l) != 0 {
				t.Errorf("Greedy %d: %v, %v", k, l, e)
			}
			wantCheck(t, f, k, api.ErrLir, 0, 0)
			wantCheck(t, f, k, api.ErrLir)
		}
		if l, e := Degree(f); e != api.ErrLir || len(l) != 0 {
			t.Errorf("Degree: %v, %v", l, e)
		}
		for _, l := range [][]int{nil, {0, 1}, {5}, {0, 1, 0}} {
			if n, e := Joined(f, l); e != api.ErrLir || n != 0 {
				t.Errorf("Joined: %v, %v", n, e)
			}
		}
	}
	for _, k := range []int{0, -1, 33, math.MinInt, math.MaxInt} {
		if l, e := Color(two(), k); e != api.ErrArg || len(l) != 0 {
			t.Errorf("Color %d: %v, %v", k, l, e)
		}
		if l, e := Greedy(two(), k); e != api.ErrArg || len(l) != 0 {
			t.Errorf("Greedy %d: %v, %v", k, l, e)
		}
		// The count of colours is wrong ahead of places that are.
		wantCheck(t, two(), k, api.ErrArg, 0, 1, 0)
		wantCheck(t, two(), k, api.ErrArg, 0, 0, 0)
		wantCheck(t, two(), k, api.ErrArg)
	}
	for _, k := range []int{1, 2, 32} {
		if l, e := Color(two(), k); e != api.OK || len(l) != 3 {
			t.Errorf("Color %d: %v, %v", k, l, e)
		}
		if l, e := Greedy(two(), k); e != api.OK || len(l) != 3 {
			t.Errorf("Greedy %d: %v, %v", k, l, e)
		}
	}
}

// 8.1: Check's rules, at their edges.
func TestCheck(t *testing.T) {
	f := two()
	wantCheck(t, f, 2, api.OK, 0, 1, 0)
	wantCheck(t, f, 2, api.OK, 1, 0, 1)
	wantCheck(t, f, 1, api.OK, 0, -1, -1)
	wantCheck(t, f, 1, api.OK, -1, -2, -1)
	// Shared by what clashes: colours and slots.
	wantCheck(t, f, 2, api.ErrColor, 0, 0, 1)
	wantCheck(t, f, 2, api.ErrColor, 1, 1, 0)
	wantCheck(t, f, 2, api.ErrColor, -1, -1, 0)
	wantCheck(t, f, 2, api.ErrColor, -4097, -4097, 0)
	// Too few and too many.
	wantCheck(t, f, 2, api.ErrColor)
	wantCheck(t, f, 2, api.ErrColor, 0, 1)
	wantCheck(t, f, 2, api.ErrColor, 0, 1, 0, 1)
	// The last colour, and one more.
	for _, k := range []int{1, 2, 12, 31, 32} {
		wantCheck(t, f, k, api.OK, k-1, -1, k-1)
		wantCheck(t, f, k, api.ErrColor, k, -1, k-1)
		wantCheck(t, f, k, api.ErrColor, k-1, -1, k)
		wantCheck(t, f, k, api.ErrColor, k-1, math.MaxInt, k-1)
	}
	// The last slot, and one below.
	wantCheck(t, f, 3, api.OK, -1-MaxSlots, 0, -1-MaxSlots)
	wantCheck(t, f, 3, api.ErrColor, -2-MaxSlots, 0, 1)
	wantCheck(t, f, 3, api.ErrColor, 0, 1, -2-MaxSlots)
	wantCheck(t, f, 3, api.ErrColor, 0, math.MinInt, 1)
	// A function without registers.
	none := function("f", 0, 0, block(ret(-1)))
	wantCheck(t, none, 1, api.OK)
	wantCheck(t, none, 1, api.ErrColor, 0)
	// Parameters that nothing uses clash.
	wantCheck(t, function("f", 2, 2, block(ret(-1))), 2, api.ErrColor, 0, 0)
	wantCheck(t, function("f", 2, 2, block(ret(-1))), 2, api.OK, 1, 0)
}

// 8.1: Greedy where colours end, and its slots.
func TestGreedyByHand(t *testing.T) {
	wantGreedy(t, function("f", 0, 0, block(ret(-1))), 1)
	wantGreedy(t, function("f", 0, 3, block(ret(-1))), 1, 0, 0, 0)
	for k := 1; k <= MaxColors; k++ {
		l, e := Greedy(allClash(40), k)
		for r := range l {
			if want := r; r >= k && l[r] != k-1-r || r < k && l[r] != want {
				t.Error(k, l, e)
			}
		}
		if Spilled(l) != 40-k || Slots(l) != 40-k {
			t.Error(k, l)
		}
	}
	// Only those below that clash are looked at; slots are taken anew from the least on.
	wantGreedy(t, chosen(4, [2]int{0, 3}, [2]int{1, 3}, [2]int{2, 3}), 1, 0, 0, 0, -1)
	wantGreedy(t, chosen(4, [2]int{0, 1}, [2]int{0, 2}, [2]int{0, 3}), 1, 0, -1, -1, -1)
	wantGreedy(t, chosen(4, [2]int{0, 1}, [2]int{0, 2}, [2]int{1, 2}, [2]int{2, 3}), 1, 0, -1, -2, 0)
	wantGreedy(t, chosen(5, [2]int{0, 1}, [2]int{0, 2}, [2]int{1, 2}, [2]int{0, 4}, [2]int{2, 4}), 1, 0, -1, -2, 0, -1)
	// A crown: one by one each pair takes one more colour, though two are enough.
	var crown [][2]int
	for a := range 4 {
		for b := range 4 {
			if a != b {
				crown = append(crown, [2]int{2 * a, 2*b + 1})
			}
		}
	}
	f := chosen(8, crown...)
	wantGreedy(t, f, 4, 0, 0, 1, 1, 2, 2, 3, 3)
	wantGreedy(t, f, 2, 0, 0, 1, 1, -1, -1, -2, -2)
	if l, e := Color(f, 2); e != api.OK || Check(f, 2, l) != api.OK || Spilled(l) > 4 {
		t.Error(l, e)
	}
}

func TestDegreeByHand(t *testing.T) {
	for _, c := range []struct {
		f    api.LFn
		want []int
	}{
		{two(), []int{1, 1, 0}},
		{function("f", 0, 0, block(ret(-1))), nil},
		{function("f", 3, 4, block(ret(-1))), []int{2, 2, 2, 0}},
		{chosen(4, [2]int{0, 3}, [2]int{3, 1}, [2]int{3, 0}, [2]int{2, 3}), []int{1, 1, 1, 3}},
		{allClash(70), slices.Repeat([]int{69}, 70)},
	} {
		if l, e := Degree(c.f); e != api.OK || !slices.Equal(l, c.want) {
			t.Error(l, e, c.want)
		}
	}
}

// 8.3: Slots and Spilled of any numbers.
func TestSlotsAndSpilled(t *testing.T) {
	for _, c := range []struct {
		places         []int
		slots, spilled int
	}{
		{nil, 0, 0}, {[]int{}, 0, 0}, {[]int{0, 5, 31, 32, math.MaxInt}, 0, 0}, {[]int{-1}, 1, 1}, {[]int{-1, -1, 0}, 1, 2}, {[]int{3, -7, -2, 3}, 7, 2},
		{[]int{-2}, 2, 1}, {[]int{-4096}, 4096, 1}, {[]int{-4097}, 4097, 1}, {[]int{-4098}, 0, 0}, {[]int{-4098, -3, math.MinInt}, 3, 1}, {[]int{math.MinInt, math.MaxInt}, 0, 0},
		{[]int{-4097, -4098, -4097, -1}, 4097, 3},
	} {
		if n, m := Slots(c.places), Spilled(c.places); n != c.slots || m != c.spilled {
			t.Errorf("%v: %d slots, %d spilled, not %d, %d", c.places, n, m, c.slots, c.spilled)
		}
	}
}

// 8.3: Joined, of right places or not.
func TestJoined(t *testing.T) {
	f := function("f", 0, 4, block(move(1, 0), move(0, 1), move(2, 2), move(3, 1), move(3, 2), trap(0)))
	wantJoined(t, f, 3, 0, 0, 0, 0)
	wantJoined(t, f, 0, 0, 1, 2, 3)
	wantJoined(t, f, 1, 7, 7, 1, 2)
	wantJoined(t, f, 2, 5, 1, 1, 1)
	wantJoined(t, f, 1, -1, -1, -2, -3)
	wantJoined(t, f, 1, 0, math.MinInt, 1, math.MinInt)
	wantJoined(t, f, 1, 0, 1, math.MaxInt, math.MaxInt)
	wantJoined(t, function("f", 0, 0, block(trap(0))), 0)
	wantJoined(t, function("f", 2, 2, block(move(0, 1), trap(0))), 1, 3, 3) // they clash, and are joined all the same
	for _, l := range [][]int{nil, {0}, {0, 0, 0}, {0, 0, 0, 0, 0}} {
		if n, e := Joined(f, l); e != api.ErrColor || n != 0 {
			t.Errorf("%v: %d, %v", l, n, e)
		}
	}
}

// hold holds a function with k colours to all promises.
func hold(t *testing.T, f api.LFn, k int) {
	t.Helper()
	g, e := Greedy(f, k)
	c, e2 := Color(f, k)
	if e != api.OK || e2 != api.OK || !slices.Equal(g, modelGreedy(f, k)) {
		t.Fatal(f, k, g, c, e, e2)
	}
	if !right(f, k, c) || !right(f, k, g) || Check(f, k, c) != api.OK || Check(f, k, g) != api.OK || Spilled(c) > Spilled(g) {
		t.Fatal(f, k, g, c)
	}
	d, _ := Degree(f)
	few := true
	for r, row := range beside(f) {
		n := 0
		for _, clash := range row {
			if clash {
				n++
			}
		}
		few = few && n < k
		if d[r] != n || n == 0 && g[r] != 0 {
			t.Fatal(f, k, d, g)
		}
	}
	if (few || k >= f.Regs) && (Spilled(c) > 0 || Slots(c) > 0 || Spilled(g) > 0) {
		t.Fatal(f, k, g, c)
	}
	for more := k + 1; more <= MaxColors; more += 7 {
		if Check(f, more, c) != api.OK || Check(f, more, g) != api.OK {
			t.Fatal(f, k, more, g, c)
		}
	}
	moves, _ := live.Moves(f)
	n := 0
	for _, m := range moves {
		if c[m[0]] == c[m[1]] {
			n++
		}
	}
	wantJoined(t, f, n, c...)
}

// 8.1 to 8.5, P8: over many functions, every k.
func TestMany(t *testing.T) {
	g := rand.New(rand.NewSource(8))
	for range 60 {
		f := someClashes(g, g.Intn(14))
		for k := 1; k <= MaxColors; k++ {
			hold(t, f, k)
		}
	}
	for range 60 {
		for _, f := range someProgram(g, 1+g.Intn(20)) {
			for k := 1; k <= MaxColors; k += 1 + g.Intn(3) {
				hold(t, f, k)
			}
		}
	}
	for range 30 {
		f := someClashes(g, 40+g.Intn(5))
		for _, k := range []int{1, 2, 3, 5, 8, 12, 16, 24, 31, 32} {
			hold(t, f, k)
		}
	}
	for k := 1; k <= MaxColors; k++ {
		hold(t, allClash(k), k)
		hold(t, allClash(k+1), k)
		hold(t, allClash(70), k)
	}
}

// 8.1: Check tells the same as the chapter's words, of places that are spoilt at one register or not.
func TestCheckOfMany(t *testing.T) {
	g := rand.New(rand.NewSource(81))
	wrong := 0
	for range 2000 {
		f := someClashes(g, 1+g.Intn(10))
		k := 1 + g.Intn(6)
		l, _ := Color(f, k)
		l[g.Intn(len(l))] = g.Intn(k+6) - 5
		want := api.OK
		if !right(f, k, l) {
			want = api.ErrColor
			wrong++
		}
		wantCheck(t, f, k, want, l...)
	}
	if wrong < 200 || wrong > 1800 {
		t.Error(wrong)
	}
}

// Color joins moves where nothing is against it, and never for a slot.
func TestColorJoins(t *testing.T) {
	// A chain of moves, each register dead behind it.
	f := function("f", 1, 5, block(move(1, 0), move(2, 1), move(3, 2), move(4, 3), ret(4)))
	for _, k := range []int{1, 12} {
		l, e := Color(f, k)
		if n, _ := Joined(f, l); e != api.OK || n != 4 || Spilled(l) != 0 {
			t.Error(l, e)
		}
	}
	// Three that clash with each other, moved to three more: all are joined, whatever their order.
	f = function("f", 3, 6, block(move(5, 0), move(4, 1), move(3, 2), calls(-1, "g", 5, 4, 3), calls(-1, "g", 3, 4, 5), ret(-1)))
	for _, k := range []int{3, 12} {
		l, e := Color(f, k)
		if n, _ := Joined(f, l); e != api.OK || n != 3 || Spilled(l) != 0 {
			t.Error(k, l, e)
		}
	}
	// One that is joined to a register in a slot has a colour nevertheless.
	f = withMoves(allClash(4), [2]int{4, 0}, [2]int{4, 1}, [2]int{4, 2}, [2]int{4, 3})
	f.Regs = 5
	for k := 1; k < 4; k++ {
		l, e := Color(f, k)
		if n, _ := Joined(f, l); e != api.OK || l[4] < 0 || Spilled(l) != 4-k || n != 1 {
			t.Error(k, l, e)
		}
	}
}

// A register's choice: the first free mark of those that moves join to it, colours ahead of slots; else the least that is free.
func TestChoice(t *testing.T) {
	m := marks{0, 1, 2, 3, unmarked, 5, unmarked}
	of := func(l ...int) set[register] {
		s := emptySet[register](len(m))
		for _, r := range l {
			s.put(register(r))
		}
		return s
	}
	for _, c := range []struct {
		clash, joined []int
		k             int
		want          mark
	}{
		{nil, nil, 3, 0}, {[]int{0, 1, 3}, nil, 3, 2}, {[]int{0, 1, 2, 3}, nil, 3, 4}, {[]int{4, 6}, nil, 3, 0}, {[]int{1, 2}, nil, 3, 0},
		{nil, []int{2, 1}, 3, 1}, {[]int{1}, []int{1, 2}, 3, 2}, {[]int{1}, []int{1}, 3, 0}, {nil, []int{4, 6}, 3, 0}, {nil, []int{4, 2}, 3, 2},
		{nil, []int{3}, 3, 0}, {nil, []int{3}, 4, 3}, {nil, []int{3, 1}, 3, 1}, {[]int{0, 1, 2}, []int{5}, 3, 5}, {[]int{0, 1, 2}, []int{5}, 4, 3}, {[]int{0, 1, 2, 3}, []int{5}, 3, 5},
	} {
		if x := m.choice(of(c.clash...), of(c.joined...), c.k); x != c.want {
			t.Errorf("%v: %d", c, x)
		}
	}
	// Two that clash, and one each that is moved to them and clashes with none.
	f := withMoves(chosen(4, [2]int{0, 1}), [2]int{2, 0}, [2]int{3, 1})
	l, e := Color(f, 2)
	if n, _ := Joined(f, l); e != api.OK || n != 2 {
		t.Error(l, e)
	}
}

// What can be taken off register by register, each with fewer than k others left beside it, needs no slot, however it is numbered; Greedy does need some.
func TestColorOfThin(t *testing.T) {
	g := rand.New(rand.NewSource(82))
	worse := 0
	for range 300 {
		k := 2 + g.Intn(4)
		regs := 20 + g.Intn(60)
		name := g.Perm(regs)
		var pairs [][2]int
		for a := 1; a < regs; a++ {
			for _, b := range g.Perm(a)[:min(a, k-1)] {
				pairs = append(pairs, [2]int{name[a], name[b]})
			}
		}
		f := chosen(regs, pairs...)
		l, e := Color(f, k)
		if e != api.OK || Check(f, k, l) != api.OK || Spilled(l) != 0 {
			t.Fatal(f, k, l, e)
		}
		if x, _ := Greedy(f, k); Spilled(x) > 0 {
			worse++
		}
	}
	if worse < 100 {
		t.Error(worse)
	}
}

// placed is a function whose registers are its places: parameters stay first.
func placed(f api.LFn, places []int) api.LFn {
	names := map[int]int{}
	name := func(r int) int {
		if _, there := names[places[r]]; !there {
			names[places[r]] = len(names)
		}
		return names[places[r]]
	}
	for r := range f.Regs {
		name(r)
	}
	x := f
	x.Blocks, x.Regs = nil, len(names)
	for _, b := range f.Blocks {
		var c api.LBlock
		for _, i := range b.Ins {
			if live.Sets(i) != -1 {
				i.D = name(i.D)
			}
			if i.Op != api.LRet && len(live.Uses(i)) > 0 && i.Op != api.LCall || i.Op == api.LRet && i.A != -1 {
				i.A = name(i.A)
			}
			if i.Op == api.LBin || i.Op == api.LStore {
				i.B = name(i.B)
			}
			i.Args = slices.Clone(i.Args)
			for k, r := range i.Args {
				i.Args[k] = name(r)
			}
			c.Ins = append(c.Ins, i)
		}
		x.Blocks = append(x.Blocks, c)
	}
	return x
}

// P8: programs whose registers share places do what they did.
func TestPlacesDoTheSame(t *testing.T) {
	g := rand.New(rand.NewSource(88))
	fewer := 0
	for range 3000 {
		l := someProgram(g, 1+g.Intn(9))
		k := 1 + g.Intn(9)
		var x []api.LFn
		for _, f := range l {
			places, e := Color(f, k)
			if e != api.OK {
				t.Fatal(f, e)
			}
			y := placed(f, places)
			if y.Regs < f.Regs {
				fewer++
			}
			x = append(x, y)
		}
		in := []byte{5, 0, 200, 1}
		a, e := lir.Run(l, in, 500)
		b, e2 := lir.Run(x, in, 500)
		if e != api.OK || e2 != api.OK || a.End != b.End || a.Code != b.Code || string(a.Out) != string(b.Out) || a.Steps != b.Steps {
			t.Fatal(l, x, a, b, e, e2)
		}
	}
	if fewer < 1000 {
		t.Error(fewer)
	}
}

// R3, R6: nothing that is handed in is changed, and answers are new each time.
func TestSharesNothing(t *testing.T) {
	g := rand.New(rand.NewSource(3))
	for range 50 {
		f := someClashes(g, 1+g.Intn(70))
		before := placed(f, identity(f.Regs))
		k := 1 + g.Intn(5)
		c, _ := Color(f, k)
		l, _ := Greedy(f, k)
		d, _ := Degree(f)
		c2, l2, d2 := slices.Clone(c), slices.Clone(l), slices.Clone(d)
		for _, x := range [][]int{c, l, d} {
			x = x[:cap(x)]
			for n := range x {
				x[n] = 99
			}
		}
		c, _ = Color(f, k)
		l, _ = Greedy(f, k)
		d, _ = Degree(f)
		if !slices.Equal(c, c2) || !slices.Equal(l, l2) || !slices.Equal(d, d2) || !lir.Same([]api.LFn{f}, []api.LFn{before}) {
			t.Fatal(f)
		}
		room := append(slices.Clone(c), -77, 5)
		places := room[:len(c)]
		Check(f, k, places)
		Joined(f, places)
		Slots(places)
		Spilled(places)
		if !slices.Equal(room, append(slices.Clone(c), -77, 5)) {
			t.Fatal(room)
		}
	}
}

func identity(n int) []int {
	var l []int
	for k := range n {
		l = append(l, k)
	}
	return l
}

// P1: the most registers, all of which clash, or none; slots stay within their limit.
func TestGreatest(t *testing.T) {
	start := time.Now()
	f := allClash(lir.MaxRegs)
	f.Blocks = []api.LBlock{{Ins: append(slices.Clone(f.Blocks[0].Ins[:4095]), jump(1))}, {Ins: append(slices.Clone(f.Blocks[0].Ins[4096:4096+4095]), jump(2))}, block(calls(-1, "rt.print", 4095), ret(-1))}
	for _, k := range []int{1, 32} {
		c, e := Color(f, k)
		if e != api.OK || Spilled(c) != 4096-k || Slots(c) != 4096-k || Check(f, k, c) != api.OK {
			t.Error(k, e, Spilled(c), Slots(c))
		}
	}
	c, e := Color(function("f", 0, lir.MaxRegs, block(trap(0))), 1)
	if e != api.OK || Spilled(c) != 0 {
		t.Error(e, Spilled(c))
	}
	if d := time.Since(start); d > time.Minute {
		t.Error(d)
	}
}

// P1: no arguments whatever make a call panic.
func TestAnything(t *testing.T) {
	g := rand.New(rand.NewSource(1))
	odd := func() int {
		l := []int{0, 0, 1, 2, 3, -1, -2, 12, 33, math.MaxInt, math.MinInt, 1 << 33, -4098}
		return l[g.Intn(len(l))]
	}
	for range 3000 {
		f := someClashes(g, g.Intn(5))
		switch g.Intn(3) {
		case 0:
			f.Params, f.Regs = odd(), odd()
		case 1:
			b := f.Blocks[g.Intn(len(f.Blocks))]
			b.Ins[g.Intn(len(b.Ins))] = api.LIns{Op: odd(), D: odd(), A: odd(), B: odd(), Args: []int{odd()}, To: odd(), Else: odd()}
		}
		var places []int
		for range g.Intn(6) {
			places = append(places, odd())
		}
		k := odd()
		want := lir.Alone(f)
		if want == api.OK && (k < 1 || k > 32) {
			want = api.ErrArg
		}
		_, e1 := Color(f, k)
		_, e2 := Greedy(f, k)
		e3 := Check(f, k, places)
		if e1 != want || e2 != want || e3 != want && (want != api.OK || e3 != api.ErrColor) {
			t.Fatal(f, k, places, want, e1, e2, e3)
		}
		Joined(f, places)
		Degree(f)
		if Spilled(places) < 0 || Slots(places) < 0 || Slots(places) > 4097 {
			t.Fatal(places)
		}
	}
}
