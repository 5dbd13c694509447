package emit_test

import (
	"bytes"
	"math/rand"
	"slices"
	"strconv"
	"testing"

	"patina/api"
	"patina/asm"
	"patina/color"
	"patina/cpu"
	"patina/elf"
	"patina/emit"
	"patina/lir"
	"patina/live"
	"patina/rt"
)

func constant(d int, n int64) api.LIns { return api.LIns{Op: api.LConst, D: d, N: n} }

func move(d, a int) api.LIns { return api.LIns{Op: api.LMove, D: d, A: a} }

func bin(d int, name string, a, b int) api.LIns {
	return api.LIns{Op: api.LBin, D: d, A: a, B: b, Name: name}
}

func load(d, a int, n int64) api.LIns { return api.LIns{Op: api.LLoad, D: d, A: a, N: n} }

func store(a int, n int64, b int) api.LIns { return api.LIns{Op: api.LStore, A: a, N: n, B: b} }

func frame(d int, n int64) api.LIns { return api.LIns{Op: api.LFrame, D: d, N: n} }

func calls(d int, name string, args ...int) api.LIns {
	return api.LIns{Op: api.LCall, D: d, Name: name, Args: args}
}

func prints(r int) api.LIns { return calls(-1, "rt.print", r) }

func jump(to int) api.LIns { return api.LIns{Op: api.LJump, To: to} }

func branch(a, to, other int) api.LIns { return api.LIns{Op: api.LIf, A: a, To: to, Else: other} }

func ret(a int) api.LIns { return api.LIns{Op: api.LRet, A: a} }

func trap(n int64) api.LIns { return api.LIns{Op: api.LTrap, N: n} }

func block(l ...api.LIns) api.LBlock { return api.LBlock{Ins: l} }

func function(name string, params, regs, words int, l ...api.LBlock) api.LFn {
	return api.LFn{Name: name, Params: params, Regs: regs, Frame: words, Blocks: l}
}

// chooser chooses places of a function's registers.
type chooser func(f api.LFn) []int

// items are those of a program whose functions have chosen places.
func items(t *testing.T, l []api.LFn, choose chooser) []api.Item {
	t.Helper()
	var all []api.Item
	for _, f := range l {
		x, e := emit.Function(f, choose(f))
		if e != api.OK {
			t.Fatal("Function", f.Name, e)
		}
		all = append(all, x...)
	}
	return all
}

// ofProgram are those of a program with places that Program chooses.
func ofProgram(t *testing.T, l []api.LFn) []api.Item {
	t.Helper()
	x, e := emit.Program(l)
	if e != api.OK {
		t.Fatal("Program", e)
	}
	return x
}

func bySlots(f api.LFn) []int {
	var l []int
	for r := range f.Regs {
		l = append(l, -1-r)
	}
	return l
}

func byGreedy(f api.LFn) []int {
	l, _ := color.Greedy(f, color.Colors)
	return l
}

func byColor(f api.LFn) []int {
	l, _ := color.Color(f, color.Colors)
	return l
}

// byChance takes the registers in any order, and gives each any place that is right: slots where one in so many is asked for (0: colours while there are some), out of so many first ones.
func byChance(g *rand.Rand, slots, outOf int) chooser {
	return func(f api.LFn) []int {
		clash := make([][]int, f.Regs)
		pairs, _ := live.Clash(f)
		for _, p := range pairs {
			clash[p[0]], clash[p[1]] = append(clash[p[0]], p[1]), append(clash[p[1]], p[0])
		}
		const unset = color.Colors
		l := slices.Repeat([]int{unset}, f.Regs)
		for _, r := range g.Perm(f.Regs) {
			taken := map[int]bool{}
			for _, other := range clash[r] {
				taken[l[other]] = true
			}
			l[r] = somePlace(g, taken, slots > 0 && g.Intn(slots) == 0, outOf)
		}
		return l
	}
}

func somePlace(g *rand.Rand, taken map[int]bool, slot bool, outOf int) int {
	for _, c := range g.Perm(color.Colors) {
		if !slot && !taken[c] {
			return c
		}
	}
	for range 100 {
		if p := -1 - g.Intn(outOf); !taken[p] {
			return p
		}
	}
	p := -1
	for taken[p] {
		p--
	}
	return p
}

// choosers are ways to choose places, the compiler's own among them.
func choosers(g *rand.Rand) []chooser {
	return []chooser{byColor, byGreedy, bySlots, byChance(g, 0, 1), byChance(g, 2, 40), byChance(g, 4, color.MaxSlots+1)}
}

// Where a bench's stack is when a function is called: there is memory above it, too.
const (
	top   = rt.StackBase + rt.StackSize - 8192
	floor = rt.StackBase + rt.Guard
)

// bench is a machine's memory with items and the runtime, in which functions are called one by one.
type bench struct {
	t     *testing.T
	code  api.Code
	pages []api.Page
}

// onBench lays items, with the runtime ahead of them. The stack has something in all its bytes. What is called and is not there is added: it leads to where calls come back.
func onBench(t *testing.T, l []api.Item) *bench {
	t.Helper()
	text := append(rt.Text(), l...)
	there := map[string]bool{}
	for _, x := range append(rt.Data(), text...) {
		there[x.Name] = there[x.Name] || x.Kind == api.ItLabel
	}
	for _, x := range slices.Clone(text) {
		if x.Name != "" && !there[x.Name] {
			there[x.Name] = true
			text = append(text, api.Item{Kind: api.ItLabel, Name: x.Name})
		}
	}
	text = append(text, api.Item{Kind: api.ItLabel, Name: "back"}, api.Item{Kind: api.ItInstr, I: api.Instr{Op: api.OpEbreak}})
	c, _, pages := loaded(t, text)
	for _, p := range pages {
		if p.Base >= rt.StackBase {
			for n := range p.Bytes {
				p.Bytes[n] = byte(n*7 + 3)
			}
		}
	}
	return &bench{t: t, code: c, pages: pages}
}

// loaded is a text and the runtime's data, assembled, and laid into a machine's memory.
func loaded(t *testing.T, text []api.Item) (api.Code, api.Cpu, []api.Page) {
	t.Helper()
	c, e, k := asm.Assemble(text, rt.Data(), rt.TextBase, rt.DataBase)
	if e != api.OK {
		t.Fatal("Assemble", e, k)
	}
	i, e := rt.Image(c)
	if e != api.OK {
		t.Fatal("Image", e)
	}
	s, pages, e := elf.Load(i)
	if e != api.OK {
		t.Fatal("Load", e)
	}
	return c, s, pages
}

// address is that of a label.
func (b *bench) address(name string) uint64 {
	b.t.Helper()
	at, ok := asm.Find(b.code, name)
	if !ok {
		b.t.Fatal("no label", name)
	}
	return at
}

// called is how a call ended.
type called struct {
	before, after api.Cpu
	pages         []api.Page
	came          bool // it came back
}

// mostSteps is how many steps a machine does in a test; fewSteps, where LIR's interpreter came to no end, or to the heap's.
const (
	mostSteps = 3_000_000
	fewSteps  = 50_000
)

// call calls a function with something in all registers, and room on the stack from x2 down to x3.
func (b *bench) call(name string, args []int64, in []byte, x2, x3 uint64) called {
	b.t.Helper()
	return b.callFor(mostSteps, name, args, in, x2, x3)
}

// callFor is call with at most so many steps.
func (b *bench) callFor(steps int, name string, args []int64, in []byte, x2, x3 uint64) called {
	b.t.Helper()
	m := b.machine(name, args, in, x2, x3)
	before := m.State()
	m.Run(steps)
	s := m.State()
	return called{before: before, after: s, pages: m.Pages(), came: s.Fault == api.FaultCall && s.PC == b.address("back")}
}

// machine is one at the beginning of a call.
func (b *bench) machine(name string, args []int64, in []byte, x2, x3 uint64) *cpu.Machine {
	b.t.Helper()
	var c api.Cpu
	for r := range 31 {
		c.Regs[r+1] = 0xdead_0000_0000_0000 + uint64(r)*0x1_0000_0101
	}
	for k, a := range args {
		c.Regs[10+k] = uint64(a)
	}
	c.PC, c.Regs[1], c.Regs[2], c.Regs[3] = b.address("f."+name), b.address("back"), x2, x3
	m, e := cpu.New(c, b.pages, in)
	if e != api.OK {
		b.t.Fatal("New", e)
	}
	return m
}

// wantKept holds a call that came back to what it must leave alone: registers, and the stack above where it was.
func (b *bench) wantKept(what string, c called) {
	b.t.Helper()
	for r := range 32 {
		free := r >= 5 && r <= 7 || r >= 10 && r <= 17 || r >= 28
		if !free && c.before.Regs[r] != c.after.Regs[r] {
			b.t.Errorf("%s: x%d was %x, is %x", what, r, c.before.Regs[r], c.after.Regs[r])
		}
	}
	b.wantAlone(what, c, c.before.Regs[2])
}

// wantAlone holds the stack's bytes from an address on to what they were.
func (b *bench) wantAlone(what string, c called, from uint64) {
	b.t.Helper()
	for n, p := range c.pages {
		if p.Base < rt.StackBase || p.Base+api.PageSize <= from {
			continue
		}
		skip := 0
		if from > p.Base {
			skip = int(from - p.Base)
		}
		if !bytes.Equal(p.Bytes[skip:], b.pages[n].Bytes[skip:]) {
			b.t.Errorf("%s: the stack was changed from %x on", what, from)
			return
		}
	}
}

// asked is a program of LIR that calls a function with arguments and prints what it answers.
func asked(l []api.LFn, name string, args []int64) []api.LFn {
	var b api.LBlock
	var regs []int
	for k, a := range args {
		b.Ins = append(b.Ins, constant(k, a))
		regs = append(regs, k)
	}
	b.Ins = append(b.Ins, calls(0, name, regs...), prints(0), ret(-1))
	return append([]api.LFn{function("asks_it", 0, len(args)+1, 0, b)}, l...)
}

// fuel is how many steps LIR's interpreter does in a test.
const fuel = 5000

// wantFunction calls a function of a program and holds it to what LIR says of it.
func (b *bench) wantFunction(what string, l []api.LFn, name string, in []byte, args ...int64) {
	b.t.Helper()
	o, e := lir.Run(asked(l, name, args), in, fuel)
	if e != api.OK {
		b.t.Fatal(what, "Run", e)
	}
	if o.End == api.EndUndef {
		b.t.Fatal(what, "undefined")
	}
	steps := mostSteps
	if o.End == api.EndFuel || o.Code == api.ExitHeap {
		steps = fewSteps
	}
	c := b.callFor(steps, name, args, in, top, floor)
	got := c.after.Out
	if c.came {
		b.wantKept(what, c)
		got = append(strconv.AppendInt(bytes.Clone(got), int64(c.after.Regs[10]), 10), '\n')
	}
	wantOutcome(b.t, what, o, c.after, c.came, got)
}

// wantOutcome holds what a machine did to what LIR says. Where one of them has no fuel, heap or stack any more, what it printed is a beginning of what the other one did.
func wantOutcome(t *testing.T, what string, o api.Outcome, s api.Cpu, done bool, out []byte) {
	t.Helper()
	if s.Fault != api.OK && !done {
		t.Errorf("%s: a fault %v at %x behind %q", what, s.Fault, s.PC, s.Out)
		return
	}
	endless := !done && !s.Halted || s.Halted && (s.Code == api.ExitHeap || s.Code == api.ExitStack)
	if o.End == api.EndFuel || o.Code == api.ExitHeap || endless {
		if !bytes.HasPrefix(out, o.Out) && !bytes.HasPrefix(o.Out, out) {
			t.Errorf("%s: printed %q, not %q", what, out, o.Out)
		}
		return
	}
	if !bytes.Equal(out, o.Out) || !done && s.Code != o.Code {
		t.Errorf("%s: printed %q, ended with %d, not %q and %d", what, out, s.Code, o.Out, o.Code)
	}
}

// played is what a machine does that begins at an image of items and the runtime.
func played(t *testing.T, l []api.Item, in []byte) api.Cpu {
	t.Helper()
	_, s, pages := loaded(t, append(rt.Text(), l...))
	m, e := cpu.New(s, pages, in)
	if e != api.OK {
		t.Fatal("New", e)
	}
	m.Run(mostSteps)
	return m.State()
}

// wantProgram runs a program's items with the runtime, and holds it to what LIR says, which must end.
func wantProgram(t *testing.T, what string, l []api.LFn, x []api.Item, in []byte) {
	t.Helper()
	o, e := lir.Run(l, in, 40*fuel)
	if e != api.OK || o.End != api.EndDone {
		t.Fatal(what, "Run", e, o.End)
	}
	s := played(t, x, in)
	if !s.Halted || s.Fault != api.OK || s.Code != o.Code || !bytes.Equal(s.Out, o.Out) {
		t.Errorf("%s: halted %v, fault %v at %x, code %d, printed %q; not %d and %q", what, s.Halted, s.Fault, s.PC, s.Code, s.Out, o.Code, o.Out)
	}
}

// wantAllPlaces runs a program with places of many kinds.
func wantAllPlaces(t *testing.T, what string, l []api.LFn, in []byte) {
	t.Helper()
	wantProgram(t, what+", Program's places", l, ofProgram(t, l), in)
	for k, choose := range choosers(rand.New(rand.NewSource(1))) {
		wantProgram(t, what+", places "+strconv.Itoa(k), l, items(t, l, choose), in)
	}
}
