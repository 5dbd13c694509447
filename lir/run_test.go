package lir

import (
	"bytes"
	"math"
	"math/rand"
	"reflect"
	"slices"
	"strconv"
	"testing"

	"patina/api"
)

// lines are numbers as they are printed.
func lines(l ...int64) []byte {
	var b []byte
	for _, n := range l {
		b = append(strconv.AppendInt(b, n, 10), 10)
	}
	return b
}

func sameOutcome(a, b api.Outcome) bool {
	return a.End == b.End && a.Code == b.Code && bytes.Equal(a.Out, b.Out) && a.Steps == b.Steps
}

func wantRun(t *testing.T, l []api.LFn, in string, fuel int, want api.Outcome) {
	t.Helper()
	o, e := Run(l, []byte(in), fuel)
	if e != api.OK || !sameOutcome(o, want) {
		t.Errorf("%v, out %q, %v; not %v, out %q", o, o.Out, e, want, want.Out)
	}
}

func done(code, steps int, printed ...int64) api.Outcome {
	return api.Outcome{End: api.EndDone, Code: code, Steps: steps, Out: lines(printed...)}
}

func undefined(steps int, printed ...int64) api.Outcome {
	return api.Outcome{End: api.EndUndef, Steps: steps, Out: lines(printed...)}
}

func fuelOut(steps int, printed ...int64) api.Outcome {
	return api.Outcome{End: api.EndFuel, Steps: steps, Out: lines(printed...)}
}

func show(r int) api.LIns { return calls(-1, "rt.print", r) }

// 6.2: the chapter's examples.
func TestExamples(t *testing.T) {
	seven := program(constant(0, 7), show(0), ret(-1))
	wantRun(t, seven, "", 3, done(0, 3, 7))
	wantRun(t, seven, "", 1000, done(0, 3, 7))
	wantRun(t, seven, "", 2, fuelOut(2, 7))
	wantRun(t, seven, "", 1, fuelOut(1))
	wantRun(t, seven, "", 0, fuelOut(0))
	wantRun(t, program(trap(101)), "", 1, done(101, 1))
	wantRun(t, program(trap(101)), "", 0, fuelOut(0))
	wantRun(t, program(load(0, 0, 0), ret(-1)), "", 9, undefined(1))
	wantRun(t, program(jump(0)), "", 5, fuelOut(5))
}

// 6.2, R1, R4: errors in their order.
func TestErrors(t *testing.T) {
	long := make([]byte, api.MaxSource+1)
	for _, c := range []struct {
		l    []api.LFn
		in   []byte
		fuel int
		e    api.Errno
	}{
		{nil, long, -1, api.ErrLir}, {whole(), long, -1, api.ErrLong}, {whole(), long, 5, api.ErrLong}, {whole(), long[1:], -1, api.ErrArg}, {whole(), nil, math.MinInt, api.ErrArg},
		{whole(), long[1:], 0, api.OK}, {whole(), nil, math.MaxInt, api.OK},
	} {
		o, e := Run(c.l, c.in, c.fuel)
		if e != c.e || e != api.OK && !reflect.DeepEqual(o, api.Outcome{}) {
			t.Errorf("%v, %v, not %v", o, e, c.e)
		}
	}
}

// 6.2: what each instruction does.
func TestEachInstruction(t *testing.T) {
	// Registers are 0 at first; constants and moves.
	wantRun(t, program(show(0), constant(1, math.MinInt64), move(0, 1), constant(1, 5), show(0), show(1), show(3), ret(-1)), "", 99, done(0, 8, 0, math.MinInt64, 5, 0))
	// D may be A or B.
	wantRun(t, program(constant(0, 6), bin(0, "sub", 0, 0), constant(1, 9), constant(2, 4), bin(1, "sub", 1, 2), bin(2, "sub", 1, 2), show(0), show(1), show(2), ret(-1)), "", 99, done(0, 10, 0, 5, 1))
	// A frame's words are 0 at first, apart, and keep what is stored, by any sum of address and number.
	wantRun(t, program(frame(0, 0), frame(1, 2), load(2, 1, 0), show(2), constant(2, 11), store(0, 16, 2), load(3, 1, 0), show(3), store(1, -16, 1), load(3, 0, 0), show(3), load(3, 0, 8), show(3), ret(-1)), "", 99, done(0, 14, 0, 11, 65536+16, 0))
	// Ifs: 0 alone is no.
	for n, want := range map[int64]int{0: 2, 1: 1, -1: 1, math.MinInt64: 1, 1 << 32: 1} {
		l := []api.LFn{function("main", 0, 1, 0, block(constant(0, n), branch(0, 1, 2)), block(trap(1)), block(trap(2)))}
		wantRun(t, l, "", 9, done(want, 3))
	}
	// A jump forward and back, over an own block.
	l := []api.LFn{function("main", 0, 2, 0, block(jump(2)), block(show(0), ret(0)), block(constant(0, 3), jump(1)))}
	wantRun(t, l, "", 9, done(0, 5, 3))
	// Main's return ends with 0, whatever it answers.
	wantRun(t, program(constant(0, 9), ret(0)), "", 9, done(0, 2))
}

// Codes of traps, in main and within calls.
func TestTraps(t *testing.T) {
	for _, code := range []int{0, 1, 101, 110, 255} {
		wantRun(t, program(show(0), trap(int64(code))), "", 9, done(code, 2, 0))
		l := []api.LFn{function("main", 0, 0, 0, block(calls(-1, "f"), trap(7))), function("f", 0, 0, 0, block(trap(int64(code))))}
		wantRun(t, l, "", 9, done(code, 2))
	}
}

// 6.2: calls: arguments in order, answers, registers and frames of their own.
func TestCalls(t *testing.T) {
	f := function("f", 2, 3, 0, block(show(0), show(1), show(2), bin(2, "sub", 0, 1), constant(0, 99), ret(2)))
	l := []api.LFn{function("main", 0, 3, 0, block(constant(0, 5), constant(1, 3), calls(2, "f", 1, 0), show(2), show(0), calls(-1, "f", 0, 0), show(2), calls(0, "f", 0, 1), show(0), ret(-1))), f}
	wantRun(t, l, "", 99, done(0, 10+18, 3, 5, 0, -2, 5, 5, 5, 0, -2, 5, 3, 0, 2))
	// Without a register its answer is 0, and what was there is gone; let go, it stays.
	l = []api.LFn{
		function("main", 0, 2, 0, block(constant(0, 5), constant(1, 6), calls(0, "f"), calls(-1, "f"), show(0), show(1), ret(-1))),
		function("f", 0, 0, 0, block(ret(-1))),
	}
	wantRun(t, l, "", 99, done(0, 9, 0, 6))
	// The answer of a call within a call comes to the right register; each call's frame is new, and all 0.
	l = []api.LFn{
		function("main", 0, 1, 1, block(constant(0, 4), calls(0, "f", 0), show(0), ret(-1))),
		function("f", 1, 4, 1,
			block(frame(1, 0), load(2, 1, 0), show(2), store(1, 0, 0), branch(0, 1, 2)),
			block(constant(2, 1), bin(2, "sub", 0, 2), calls(3, "f", 2), load(2, 1, 0), bin(3, "add", 3, 2), ret(3)),
			block(ret(-1))),
	}
	wantRun(t, l, "", 999, done(0, 4+5*5+4*6+1, 0, 0, 0, 0, 0, 10))
	// All seven arguments.
	var prints, sets []api.LIns
	for k := range 7 {
		prints, sets = append(prints, show(k)), append(sets, constant(k, int64(10+k)))
	}
	l = []api.LFn{
		function("main", 0, 7, 0, block(append(sets, calls(-1, "f", 6, 5, 4, 3, 2, 1, 0), ret(-1))...)),
		function("f", 7, 7, 0, block(append(prints, ret(0))...)),
	}
	wantRun(t, l, "", 99, done(0, 17, 16, 15, 14, 13, 12, 11, 10))
}

// 6.2: what the runtime answers.
func TestRuntime(t *testing.T) {
	read := program(calls(0, "rt.read"), show(0), calls(0, "rt.read"), show(0), calls(-1, "rt.read"), calls(0, "rt.read"), show(0), calls(0, "rt.read"), show(0), ret(-1))
	wantRun(t, read, "\x00\xffab", 99, done(0, 10, 0, 255, 'b', -1))
	wantRun(t, read, "a", 99, done(0, 10, 'a', -1, -1, -1))
	wantRun(t, read, "", 99, done(0, 10, -1, -1, -1, -1))
	for _, n := range []int64{0, -1, 9, 10, -10, math.MinInt64, math.MaxInt64} {
		wantRun(t, program(constant(0, n), constant(1, 8), calls(1, "rt.print", 0), show(1), ret(-1)), "", 99, done(0, 5, n, 0))
	}
	wantRun(t, program(constant(0, 2), calls(1, "rt.alloc", 0), calls(2, "rt.free", 1, 0), show(2), ret(-1)), "", 99, done(0, 5, 0))
}

// 6.2: addresses of frames and blocks, in the order in which they begin: none is used twice.
func TestAddresses(t *testing.T) {
	l := []api.LFn{
		function("main", 0, 4, 3, block(
			frame(0, 0), show(0), frame(0, 2), show(0), // 65536, 65552
			constant(1, 2), calls(2, "rt.alloc", 1), show(2), // 65536 + 8 * 4
			calls(-1, "f"),                    // 65568 + 8 * 3
			calls(-1, "none"), calls(-1, "f"), // 65592 + 8 * 2, then 8 more
			calls(-1, "rt.free", 2, 1), calls(2, "rt.alloc", 1), show(2), // 65616 + 8 * 2
			calls(2, "rt.alloc", 3), show(2), calls(2, "rt.alloc", 3), show(2), // of no words
			ret(-1))),
		function("f", 0, 1, 1, block(frame(0, 0), show(0), ret(-1))),
		function("none", 0, 0, 0, block(ret(-1))),
	}
	wantRun(t, l, "", 99, done(0, 18+7, 65536, 65552, 65568, 65592, 65616, 65632, 65656, 65664))
}

// wantWord holds the word at an address and a number behind it to be there, or not; so that of a store.
func wantWord(t *testing.T, there bool, ahead []api.LIns, at int, n int64) {
	t.Helper()
	steps := len(ahead) + 1
	for _, i := range []api.LIns{load(3, at, n), store(at, n, 3)} {
		want := undefined(steps)
		if there {
			want = done(0, steps+1)
		}
		wantRun(t, program(append(slices.Clone(ahead), i, ret(-1))...), "", 99, want)
	}
}

// 6.2: which words are there.
func TestWordsThatAreThere(t *testing.T) {
	own := []api.LIns{frame(0, 1)} // of three words, at 65536
	for n, there := range map[int64]bool{-16: false, -8: true, 0: true, 8: true, 16: false, 24: false, 1<<31 - 8: false, -1 << 31: false} {
		wantWord(t, there, own, 0, n)
	}
	for at, there := range map[int64]bool{65536: true, 65540: false, 65537: false, 65543: false, 65544: true, 65552: true, 65556: false, 65559: false, 65560: false, 65535: false, 65528: false, 0: false, 8: false, -8: false, math.MinInt64: false, math.MaxInt64: false, math.MaxInt64 - 7: false, -65536: false, 1<<32 + 65536: false} {
		wantWord(t, there, []api.LIns{constant(0, at)}, 0, 0)
		wantWord(t, there, []api.LIns{constant(0, at-8)}, 0, 8)
		wantWord(t, there, []api.LIns{constant(0, at+16)}, 0, -16)
	}
	// A block of two words at 65568, behind a frame of three.
	two := []api.LIns{constant(1, 2), calls(0, "rt.alloc", 1)}
	for n, there := range map[int64]bool{-32: true, -16: true, -8: false, 0: true, 8: true, 16: false, 24: false} {
		wantWord(t, there, two, 0, n)
	}
	none := []api.LIns{calls(0, "rt.alloc", 1)}
	wantWord(t, false, none, 0, 0)
	wantWord(t, false, none, 0, -8)
	wantWord(t, true, none, 0, -16)
	// Another block between, which has ended.
	three := append(slices.Clone(two), calls(2, "rt.alloc", 1), calls(-1, "rt.alloc", 1), calls(-1, "rt.free", 2, 1))
	wantWord(t, false, three, 2, 0)
	wantWord(t, false, three, 2, 8)
	wantWord(t, true, three, 2, -16)
	wantWord(t, true, three, 2, 24)
	wantWord(t, false, append(three, calls(-1, "rt.free", 0, 1)), 0, 0)
}

// 6.2: a frame's words end with its call; those of a caller, and of blocks, stay.
func TestEndedFrames(t *testing.T) {
	of := func(l ...api.LIns) []api.LFn {
		return []api.LFn{
			function("main", 0, 4, 1, block(append(l, ret(-1))...)),
			function("own", 0, 1, 1, block(frame(0, 0), ret(0))),
			function("block", 0, 2, 1, block(constant(0, 1), calls(1, "rt.alloc", 0), constant(0, 44), store(1, 0, 0), ret(1))),
			function("set", 1, 2, 0, block(constant(1, 33), store(0, 0, 1), ret(-1))),
		}
	}
	wantRun(t, of(calls(0, "own"), load(1, 0, 0)), "", 99, undefined(4))
	wantRun(t, of(calls(0, "own"), calls(1, "own"), store(0, 0, 1)), "", 99, undefined(7))
	wantRun(t, of(calls(0, "own"), calls(1, "own"), bin(2, "sub", 1, 0), show(2)), "", 99, done(0, 9, 16))
	wantRun(t, of(calls(0, "block"), load(1, 0, 0), show(1)), "", 99, done(0, 9, 44))
	wantRun(t, of(frame(0, 0), calls(-1, "set", 0), load(1, 0, 0), show(1)), "", 99, done(0, 8, 33))
}

// 6.2: blocks that end, and those that can't.
func TestFree(t *testing.T) {
	ahead := []api.LIns{constant(0, 2), constant(1, 3), calls(2, "rt.alloc", 0)}
	for _, c := range []struct {
		rest []api.LIns
		want api.Outcome
	}{
		{[]api.LIns{calls(-1, "rt.free", 2, 0)}, done(0, 5)},
		{[]api.LIns{calls(-1, "rt.free", 2, 1)}, undefined(4)},
		{[]api.LIns{calls(-1, "rt.free", 2, 3)}, undefined(4)},
		{[]api.LIns{calls(-1, "rt.free", 3, 0)}, undefined(4)},
		{[]api.LIns{calls(-1, "rt.free", 2, 0), calls(-1, "rt.free", 2, 0)}, undefined(5)},
		{[]api.LIns{calls(-1, "rt.free", 2, 0), load(3, 2, 0)}, undefined(5)},
		{[]api.LIns{calls(-1, "rt.free", 2, 0), store(2, 8, 0)}, undefined(5)},
		{[]api.LIns{constant(3, 8), bin(2, "add", 2, 3), calls(-1, "rt.free", 2, 0)}, undefined(6)},
		{[]api.LIns{constant(3, 8), bin(2, "add", 2, 3), constant(0, 1), calls(-1, "rt.free", 2, 0)}, undefined(7)},
		{[]api.LIns{constant(3, 1), bin(2, "add", 2, 3), calls(-1, "rt.free", 2, 0)}, undefined(6)},
		{[]api.LIns{frame(2, 0), calls(-1, "rt.free", 2, 1)}, undefined(5)}, // a frame is no block
		{[]api.LIns{constant(0, -1), calls(-1, "rt.free", 2, 0)}, undefined(5)},
		{[]api.LIns{constant(0, 1<<32+2), calls(-1, "rt.free", 2, 0)}, undefined(5)},
		// A block of no words ends just once, too.
		{[]api.LIns{calls(2, "rt.alloc", 3), calls(1, "rt.alloc", 3), calls(-1, "rt.free", 2, 3), calls(-1, "rt.free", 1, 3)}, done(0, 8)},
		{[]api.LIns{calls(2, "rt.alloc", 3), calls(-1, "rt.free", 2, 3), calls(-1, "rt.free", 2, 3)}, undefined(6)},
		// Words are 0 again in a new one.
		{[]api.LIns{store(2, 0, 1), calls(-1, "rt.free", 2, 0), calls(2, "rt.alloc", 0), load(3, 2, 0), show(3), load(3, 2, 8), show(3)}, done(0, 11, 0, 0)},
	} {
		wantRun(t, program(append(append(slices.Clone(ahead), c.rest...), ret(-1))...), "", 99, c.want)
	}
}

// allocated is a loop that takes so many blocks of n words, and then goes on.
func allocated(blocks, n int64, rest ...api.LIns) []api.LFn {
	return []api.LFn{function("main", 0, 6, 0,
		block(constant(0, blocks), constant(1, n), constant(2, 1), jump(1)),
		block(branch(0, 2, 3)),
		block(calls(3, "rt.alloc", 1), bin(0, "sub", 0, 2), jump(1)),
		block(append(rest, ret(-1))...))}
}

// 6.2: the heap's end: blocks that are too long, or too many words in all.
func TestHeapEnd(t *testing.T) {
	for n, code := range map[int64]int{0: 0, 1: 0, 64: 0, 65: api.ExitHeap, -1: api.ExitHeap, math.MinInt64: api.ExitHeap, math.MaxInt64: api.ExitHeap, 1 << 32: api.ExitHeap} {
		steps := 3
		if code != 0 {
			steps = 2
		}
		wantRun(t, program(constant(0, n), calls(0, "rt.alloc", 0), ret(-1)), "", 9, done(code, steps))
	}
	all := 4 + 4*128 + 1
	wantRun(t, allocated(128, 64), "", 9999, done(0, all+1))
	wantRun(t, allocated(129, 64, show(0)), "", 9999, done(api.ExitHeap, all+1))
	wantRun(t, allocated(128, 64, calls(3, "rt.alloc", 0), constant(0, 1), show(0), calls(3, "rt.alloc", 0), show(0)), "", 9999, done(api.ExitHeap, all+4, 1)) // one of no words, then one too many
	wantRun(t, allocated(127, 64, constant(0, 63), calls(3, "rt.alloc", 0), constant(0, 1), calls(3, "rt.alloc", 0), show(0), calls(3, "rt.alloc", 0)), "", 9999, done(api.ExitHeap, all-4+6, 1))
	// What has ended counts no more.
	free := []api.LIns{calls(-1, "rt.free", 3, 1), calls(3, "rt.alloc", 1), show(0), calls(3, "rt.alloc", 1)}
	wantRun(t, allocated(128, 64, free...), "", 9999, done(api.ExitHeap, all+4, 0))
	// Frames are not the heap's.
	l := allocated(128, 64)
	l[0].Frame = 4096
	wantRun(t, l, "", 9999, done(0, all+1))
	// Blocks of no words are as many as one likes.
	wantRun(t, allocated(20000, 0), "", 99999, done(0, 4+4*20000+2))
}

// deep is a main that calls a function which calls itself so many times more, prints at the end, and comes back.
func deep(n int64) []api.LFn {
	return []api.LFn{
		function("main", 0, 1, 0, block(constant(0, n), calls(-1, "f", 0), show(0), ret(-1))),
		function("f", 1, 2, 0, block(branch(0, 1, 2)), block(constant(1, 1), bin(0, "sub", 0, 1), calls(-1, "f", 0), ret(-1)), block(show(0), ret(-1))),
	}
}

// 6.2: calls in one another, of which main's is one: 1000, and one more. The runtime's are not counted.
func TestCallsInOneAnother(t *testing.T) {
	const most = MaxCalls - 2
	wantRun(t, deep(most), "", 99999, done(0, 4+5*most+3, 0, most))
	wantRun(t, deep(most+1), "", 99999, fuelOut(2+4*(most+1)-1))
	wantRun(t, deep(most+1), "", 2+4*(most+1)-1, fuelOut(2+4*(most+1)-1))
	wantRun(t, deep(most+1), "", 2+4*(most+1)-2, fuelOut(2+4*(most+1)-2))
	// One behind the other they are no more than two.
	l := []api.LFn{
		function("main", 0, 2, 0, block(constant(0, 3000), constant(1, 1), jump(1)), block(calls(-1, "f"), bin(0, "sub", 0, 1), branch(0, 1, 2)), block(ret(-1))),
		function("f", 0, 0, 3, block(ret(-1))),
	}
	wantRun(t, l, "", 99999, done(0, 3+4*3000+1))
	// Main may be called too.
	l = program(show(0), calls(-1, "main"), ret(-1))
	o, e := Run(l, nil, 99999)
	if e != api.OK || !sameOutcome(o, fuelOut(2*1000-1, make([]int64, 1000)...)) {
		t.Error(o.End, o.Steps, len(o.Out), e)
	}
}

// Frames and blocks that begin and end by turns, so that ended ones stand among others.
func TestManyEnds(t *testing.T) {
	// Each call of f takes a block, keeps it in the one before, and ends its own frame; then the list is walked, summed, and given back.
	l := []api.LFn{
		function("main", 0, 6, 1,
			block(constant(0, 2000), constant(1, 1), constant(5, 2), jump(1)),
			block(calls(2, "f", 2, 0), bin(0, "sub", 0, 1), branch(0, 1, 2)),
			block(branch(2, 3, 4)),
			block(load(3, 2, 8), bin(4, "add", 4, 3), load(3, 2, 0), calls(-1, "rt.free", 2, 5), move(2, 3), jump(2)),
			block(show(4), ret(-1))),
		function("f", 2, 4, 1, block(frame(3, 0), store(3, 0, 1), constant(2, 2), calls(2, "rt.alloc", 2), store(2, 0, 0), load(3, 3, 0), store(2, 8, 3), ret(2))),
	}
	wantRun(t, l, "", 1<<20, done(0, 4+11*2000+7*2000+3, 2001000))
}

// R3, R6: arguments stay as they are, answers share nothing, and the same is told again.
func TestNothingIsShared(t *testing.T) {
	l := program(calls(0, "rt.read"), show(0), calls(1, "rt.read"), show(1), ret(-1))
	was := program(calls(0, "rt.read"), show(0), calls(1, "rt.read"), show(1), ret(-1))
	in := []byte("abcd")
	o, _ := Run(l, in[:2], 99)
	for k := range o.Out[:cap(o.Out)] {
		o.Out[:cap(o.Out)][k] = 1
	}
	if !Same(l, was) || string(in) != "abcd" {
		t.Error("an argument was changed")
	}
	wantRun(t, l, "ab", 99, done(0, 5, 'a', 'b'))
	i := branch(0, 2, 1)
	n := Next(i)
	n[0] = 9
	if !slices.Equal(Next(i), []int{1, 2}) {
		t.Error("Next")
	}
}

// model runs LIR as the chapter tells it: by calls of Go's own, with a map of all words that are there.
type model struct {
	l      []api.LFn
	in     []byte
	fuel   int
	o      api.Outcome
	deep   int
	next   int64
	words  map[int64]int64
	blocks map[int64]int64 // their words, by their addresses
	heap   int64
}

// ended is what leaves all calls.
type ended struct{ end, code int }

func modelRun(l []api.LFn, in []byte, fuel int) (o api.Outcome) {
	m := &model{l: l, in: in, fuel: fuel, next: 65536, words: map[int64]int64{}, blocks: map[int64]int64{}}
	defer func() {
		e := recover().(ended)
		o = m.o
		o.End, o.Code = e.end, e.code
	}()
	m.call(0, nil)
	panic(ended{api.EndDone, api.ExitDone})
}

func (m *model) begin(n int64) int64 {
	at := m.next
	for k := range n {
		m.words[at+8*k] = 0
	}
	m.next += 8 * (n + 1)
	return at
}

func (m *model) end(at, n int64) {
	for k := range n {
		delete(m.words, at+8*k)
	}
}

func (m *model) there(at int64) int64 {
	if _, ok := m.words[at]; !ok {
		panic(ended{api.EndUndef, 0})
	}
	return at
}

func (m *model) call(f int, args []int64) int64 {
	fn := m.l[f]
	m.deep++
	regs := make([]int64, fn.Regs)
	copy(regs, args)
	at := m.begin(int64(fn.Frame))
	b := 0
	for {
		for _, i := range fn.Blocks[b].Ins {
			called := slices.IndexFunc(m.l, func(f api.LFn) bool { return i.Op == api.LCall && f.Name == i.Name })
			if m.o.Steps == m.fuel || called >= 0 && m.deep == 1000 {
				panic(ended{api.EndFuel, 0})
			}
			m.o.Steps++
			var v int64
			switch i.Op {
			case api.LConst:
				regs[i.D] = i.N
			case api.LMove:
				regs[i.D] = regs[i.A]
			case api.LBin:
				regs[i.D] = bigBin(i.Name, regs[i.A], regs[i.B])
			case api.LLoad:
				regs[i.D] = m.words[m.there(regs[i.A]+i.N)]
			case api.LStore:
				m.words[m.there(regs[i.A]+i.N)] = regs[i.B]
			case api.LFrame:
				regs[i.D] = at + 8*i.N
			case api.LCall:
				var args []int64
				for _, a := range i.Args {
					args = append(args, regs[a])
				}
				if called >= 0 {
					v = m.call(called, args)
				} else {
					v = m.runtime(i.Name, args)
				}
				if i.D >= 0 {
					regs[i.D] = v
				}
			case api.LJump:
				b = i.To
			case api.LIf:
				b = i.To
				if regs[i.A] == 0 {
					b = i.Else
				}
			case api.LRet:
				if i.A >= 0 {
					v = regs[i.A]
				}
				m.end(at, int64(fn.Frame))
				m.deep--
				return v
			case api.LTrap:
				panic(ended{api.EndDone, int(i.N)})
			}
		}
	}
}

func (m *model) runtime(name string, args []int64) int64 {
	switch name {
	case "rt.print":
		m.o.Out = append(m.o.Out, lines(args[0])...)
	case "rt.read":
		if len(m.in) == 0 {
			return -1
		}
		b := m.in[0]
		m.in = m.in[1:]
		return int64(b)
	case "rt.alloc":
		if n := args[0]; n < 0 || n > 64 || m.heap+n > 8192 {
			panic(ended{api.EndDone, 110})
		}
		m.heap += args[0]
		at := m.begin(args[0])
		m.blocks[at] = args[0]
		return at
	case "rt.free":
		if n, ok := m.blocks[args[0]]; !ok || n != args[1] {
			panic(ended{api.EndUndef, 0})
		}
		delete(m.blocks, args[0])
		m.end(args[0], args[1])
		m.heap -= args[1]
	}
	return 0
}

// anyInstruction is one that is right in a program of some functions, with four registers, two words and four blocks each. Register 3 has most often an address.
func anyInstruction(r *rand.Rand, l []api.LFn, memory bool) api.LIns {
	reg := func() int { return r.Intn(4) }
	names := []string{"add", "sub", "mul", "mulh", "div", "rem", "and", "or", "xor", "sll", "srl", "sra", "slt", "sltu"}
	kind := r.Intn(13)
	if !memory && (kind == 7 || kind == 8 || kind == 12) {
		kind = 0
	}
	switch kind {
	case 0:
		return constant(r.Intn(3), int64(r.Intn(70)-2))
	case 1:
		return move(r.Intn(3), reg())
	case 2, 3:
		return bin(r.Intn(3), names[r.Intn(len(names))], reg(), reg())
	case 4, 5:
		return show(r.Intn(3))
	case 6:
		return frame(3, int64(r.Intn(2)))
	case 7:
		return load(reg(), 3, int64(8*(r.Intn(8)/6*(r.Intn(5)-2))))
	case 8:
		return store(3, int64(8*(r.Intn(8)/6*(r.Intn(5)-2))), reg())
	case 9:
		return calls(r.Intn(3), "rt.read")
	case 10:
		return calls(3, "rt.alloc", r.Intn(3))
	case 11:
		f := l[r.Intn(len(l))]
		var args []int
		for range f.Params {
			args = append(args, reg())
		}
		return calls(r.Intn(5)-1, f.Name, args...)
	}
	return calls(-1, "rt.free", 3, r.Intn(3))
}

func anyEnd(r *rand.Rand) api.LIns {
	switch r.Intn(8) {
	case 0:
		return trap(int64(r.Intn(256)))
	case 1, 2:
		return ret(r.Intn(5) - 1)
	case 3, 4:
		return jump(r.Intn(4))
	}
	return branch(r.Intn(4), r.Intn(4), r.Intn(4))
}

// anyProgram is one that is right; without memory: it has no load, store and rt.free.
func anyProgram(r *rand.Rand, memory bool) []api.LFn {
	l := []api.LFn{function("main", 0, 4, 2), function("f", 2, 4, 2), function("g", 4, 4, 3)}
	for k := range l {
		for range 4 {
			b := block(constant(0, int64(r.Intn(9))), frame(3, int64(r.Intn(2))))
			if r.Intn(3) == 0 {
				b = block()
			}
			for range r.Intn(7) {
				b.Ins = append(b.Ins, anyInstruction(r, l, memory))
			}
			b.Ins = append(b.Ins, anyEnd(r))
			l[k].Blocks = append(l[k].Blocks, b)
		}
	}
	return l
}

// 6.2: programs at random do what the chapter tells. 6.4: they do it again, and with more fuel they end the same, or have printed a beginning.
func TestAnyPrograms(t *testing.T) {
	r := rand.New(rand.NewSource(3))
	ends := map[int]int{}
	for range 6000 {
		l := anyProgram(r, true)
		if e := Check(l); e != api.OK {
			t.Fatal(l, e)
		}
		in := []byte("0123456789")[:r.Intn(10)]
		fuel := r.Intn(3000)
		o, _ := Run(l, in, fuel)
		ends[o.End]++
		if want := modelRun(l, in, fuel); !sameOutcome(o, want) {
			text, _ := Text(l)
			t.Fatalf("%v, not %v:\n%s", o, want, text)
		}
		for _, more := range []int{fuel, fuel + 1, fuel + 100} {
			p, _ := Run(l, in, more)
			if o.End == api.EndFuel && (!bytes.HasPrefix(p.Out, o.Out) || p.Steps < o.Steps) || o.End != api.EndFuel && !sameOutcome(o, p) {
				t.Fatal("with more fuel", o, p)
			}
		}
	}
	for _, end := range []int{api.EndDone, api.EndFuel, api.EndUndef} {
		if ends[end] < 500 {
			t.Error("poor samples", ends)
		}
	}
}

// 6.5: without LLoad, LStore and rt.free nothing is undefined.
func TestNeverUndefined(t *testing.T) {
	r := rand.New(rand.NewSource(4))
	for range 3000 {
		l := anyProgram(r, false)
		if o, e := Run(l, []byte("ab"), 5000); e != api.OK || o.End == api.EndUndef {
			t.Fatal(l, o, e)
		}
	}
}

// P1: whatever is handed in, each call ends.
func TestAnyArguments(t *testing.T) {
	r := rand.New(rand.NewSource(5))
	n := func() int {
		return []int{0, 0, 0, 1, 2, 3, -1, 11, 64, 4096, 4097, math.MinInt, math.MaxInt}[r.Intn(13)]
	}
	for range 20000 {
		l := anyProgram(r, true)[:r.Intn(4)]
		for k := range l {
			f := &l[k]
			b := &f.Blocks[r.Intn(4)]
			i := &b.Ins[r.Intn(len(b.Ins))]
			fields := []*int{&f.Params, &f.Regs, &f.Frame, &i.Op, &i.D, &i.A, &i.B, &i.To, &i.Else}
			if r.Intn(2) == 0 {
				*fields[r.Intn(len(fields))] = n()
			}
			Next(*i)
			Alone(*f)
		}
		e := Check(l)
		_, e1 := Run(l, nil, 200)
		_, e2 := Text(l)
		if e1 != e || e2 != e || !Same(l, l) {
			t.Fatal(e, e1, e2)
		}
	}
}
