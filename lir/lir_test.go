package lir

import (
	"math"
	"math/big"
	"math/rand"
	"slices"
	"strings"
	"testing"

	"patina/api"
)

func constant(d int, n int64) api.LIns { return api.LIns{Op: api.LConst, D: d, N: n} }

func move(d, a int) api.LIns { return api.LIns{Op: api.LMove, D: d, A: a} }

func bin(d int, name string, a, b int) api.LIns {
	return api.LIns{Op: api.LBin, D: d, A: a, B: b, Name: name}
}

func load(d, a int, n int64) api.LIns { return api.LIns{Op: api.LLoad, D: d, A: a, N: n} }

func store(a int, n int64, b int) api.LIns { return api.LIns{Op: api.LStore, A: a, N: n, B: b} }

func frame(d int, n int64) api.LIns { return api.LIns{Op: api.LFrame, D: d, N: n} }

func calls(d int, name string, args ...int) api.LIns {
	return api.LIns{Op: api.LCall, D: d, Name: name, Args: args}
}

func jump(to int) api.LIns { return api.LIns{Op: api.LJump, To: to} }

func branch(a, to, other int) api.LIns { return api.LIns{Op: api.LIf, A: a, To: to, Else: other} }

func ret(a int) api.LIns { return api.LIns{Op: api.LRet, A: a} }

func trap(n int64) api.LIns { return api.LIns{Op: api.LTrap, N: n} }

func block(l ...api.LIns) api.LBlock { return api.LBlock{Ins: l} }

func function(name string, params, regs, frame int, l ...api.LBlock) api.LFn {
	return api.LFn{Name: name, Params: params, Regs: regs, Frame: frame, Blocks: l}
}

// program is a main of one block with four registers and a frame of three words.
func program(l ...api.LIns) []api.LFn {
	return []api.LFn{function("main", 0, 4, 3, block(l...))}
}

// whole is a program that has each kind of instruction; it is made anew each time.
func whole() []api.LFn {
	return []api.LFn{
		function("main", 0, 5, 4,
			block(constant(0, -7), move(1, 0), bin(2, "add", 0, 1), frame(3, 2), store(3, 8, 2), load(4, 3, 8), calls(4, "f", 0, 1), calls(-1, "rt.print", 4), branch(4, 2, 1)),
			block(calls(2, "rt.read"), calls(3, "rt.alloc", 4), calls(-1, "rt.free", 3, 4), jump(2)),
			block(ret(-1)),
			block(trap(255))),
		function("f", 2, 3, 0, block(bin(2, "mulh", 1, 0), calls(-1, "_g9"), ret(2))),
		function("_g9", 0, 0, 0, block(ret(-1))),
	}
}

func wantCheck(t *testing.T, what string, l []api.LFn, want api.Errno) {
	t.Helper()
	if e := Check(l); e != want {
		t.Errorf("%s: Check tells %v, not %v", what, e, want)
	}
	if want == api.OK {
		return
	}
	if o, e := Run(l, nil, 1); e != want || o.End != 0 || o.Code != 0 || len(o.Out) != 0 || o.Steps != 0 {
		t.Errorf("%s: Run tells %v, %v", what, o, e)
	}
	if s, e := Text(l); e != want || s != "" {
		t.Errorf("%s: Text tells %q, %v", what, s, e)
	}
}

// spoilt is whole with a change.
func spoilt(change func(l []api.LFn)) []api.LFn {
	l := whole()
	change(l)
	return l
}

// 6.1: each rule of functions, kept at its ends, and broken by itself.
func TestRulesOfFunctions(t *testing.T) {
	wantCheck(t, "whole", whole(), api.OK)
	wantCheck(t, "nil", nil, api.ErrLir)
	wantCheck(t, "none", []api.LFn{}, api.ErrLir)
	var many []api.LFn
	for k := range 1025 {
		many = append(many, function("f"+string(rune('a'+k%26))+strings.Repeat("x", k/26), 0, 0, 0, block(ret(-1))))
	}
	wantCheck(t, "1024 functions", many[:1024], api.OK)
	wantCheck(t, "1025 functions", many, api.ErrLir)
	regs := func(n, params int) func(l []api.LFn) {
		return func(l []api.LFn) {
			l[2].Params, l[2].Regs = params, n
			l[1].Blocks[0].Ins[1].Args = make([]int, max(params, 0)) // the call of it
		}
	}
	blocks := func(n int) func(l []api.LFn) {
		return func(l []api.LFn) { l[2].Blocks = slices.Repeat([]api.LBlock{block(ret(-1))}, n) }
	}
	instructions := func(n int) func(l []api.LFn) {
		return func(l []api.LFn) {
			l[2].Regs = 1
			l[2].Blocks[0].Ins = slices.Insert(l[2].Blocks[0].Ins, 0, slices.Repeat([]api.LIns{constant(0, 1)}, n-1)...)
		}
	}
	named := func(name string) func(l []api.LFn) {
		return func(l []api.LFn) { l[2].Name, l[1].Blocks[0].Ins[1].Name = name, name }
	}
	for _, c := range []struct {
		what   string
		change func(l []api.LFn)
		e      api.Errno
	}{
		{"two of one name", func(l []api.LFn) { l[1].Name, l[0].Blocks[0].Ins[6].Name = "_g9", "_g9" }, api.ErrLir},
		{"two mains", func(l []api.LFn) { l[2].Name, l[1].Blocks[0].Ins[1].Name = "main", "main" }, api.ErrLir},
		{"main of another name", func(l []api.LFn) { l[0].Name = "first" }, api.OK},
		{"main with a parameter", func(l []api.LFn) { l[0].Params = 1 }, api.ErrLir},
		{"a call of main", func(l []api.LFn) { l[1].Blocks[0].Ins[1].Name = "main" }, api.OK},
		{"a name of 64 bytes", named(strings.Repeat("n", 64)), api.OK},
		{"a name of 65 bytes", named(strings.Repeat("n", 65)), api.ErrLir},
		{"a name of none", named(""), api.ErrLir},
		{"a name of all", named("_azAZ09"), api.OK},
		{"a name of _", named("_"), api.OK},
		{"a name of a letter", named("Z"), api.OK},
		{"a digit first", named("9a"), api.ErrLir},
		{"a point", named("a.b"), api.ErrLir},
		{"a runtime's name", named("rt.print"), api.ErrLir},
		{"a blank", named("a b"), api.ErrLir},
		{"a byte 10", named("a\n"), api.ErrLir},
		{"another letter", named("\u00e4"), api.ErrLir},
		{"bytes beside letters", named("a@"), api.ErrLir},
		{"bytes beside letters", named("a["), api.ErrLir},
		{"bytes beside letters", named("a`"), api.ErrLir},
		{"bytes beside letters", named("a{"), api.ErrLir},
		{"bytes beside digits", named("a/"), api.ErrLir},
		{"bytes beside digits", named("a:"), api.ErrLir},
		{"7 parameters", func(l []api.LFn) { regs(7, 7)(l); l[1].Blocks[0].Ins[1].Args = make([]int, 7) }, api.OK},
		{"8 parameters", func(l []api.LFn) { regs(8, 8)(l); l[1].Blocks[0].Ins[1].Args = make([]int, 8) }, api.ErrLir},
		{"parameters below 0", regs(3, -1), api.ErrLir},
		{"parameters below 0, of one that is not called", func(l []api.LFn) { l[1].Blocks[0].Ins[1].Name, l[2].Params = "main", -1 }, api.ErrLir},
		{"fewer registers than parameters", regs(1, 2), api.ErrLir},
		{"registers below 0", regs(-1, 0), api.ErrLir},
		{"4096 registers", regs(4096, 0), api.OK},
		{"4097 registers", regs(4097, 0), api.ErrLir},
		{"a frame of 4096", func(l []api.LFn) { l[2].Frame = 4096 }, api.OK},
		{"a frame of 4097", func(l []api.LFn) { l[2].Frame = 4097 }, api.ErrLir},
		{"a frame below 0", func(l []api.LFn) { l[2].Frame = -1 }, api.ErrLir},
		{"a frame far below 0", func(l []api.LFn) { l[2].Frame = math.MinInt }, api.ErrLir},
		{"no block", blocks(0), api.ErrLir},
		{"1024 blocks", blocks(1024), api.OK},
		{"1025 blocks", blocks(1025), api.ErrLir},
		{"a block of nothing", func(l []api.LFn) { l[0].Blocks[3].Ins = nil }, api.ErrLir},
		{"4096 instructions", instructions(4096), api.OK},
		{"4097 instructions", instructions(4097), api.ErrLir},
		{"no end", func(l []api.LFn) { l[2].Regs, l[2].Blocks[0].Ins[0] = 1, constant(0, 1) }, api.ErrLir},
		{"two returns", func(l []api.LFn) { l[2].Blocks[0].Ins = []api.LIns{ret(-1), ret(-1)} }, api.ErrLir},
		{"a jump within", func(l []api.LFn) { l[2].Blocks[0].Ins = []api.LIns{jump(0), ret(-1)} }, api.ErrLir},
		{"an if within", func(l []api.LFn) { l[2].Regs, l[2].Blocks[0].Ins = 1, []api.LIns{branch(0, 0, 0), ret(-1)} }, api.ErrLir},
		{"a trap within", func(l []api.LFn) { l[2].Blocks[0].Ins = []api.LIns{trap(1), ret(-1)} }, api.ErrLir},
		{"a call at the end", func(l []api.LFn) { l[2].Blocks[0].Ins = []api.LIns{calls(-1, "main")} }, api.ErrLir},
	} {
		wantCheck(t, c.what, spoilt(c.change), c.e)
	}
}

// withEnd are instructions with an end behind, if the last one is none.
func withEnd(i api.LIns) []api.LIns {
	if isEnd(i.Op) {
		return []api.LIns{i}
	}
	return []api.LIns{i, ret(-1)}
}

// three is a main with three registers, three words and two blocks, of which the first has an instruction, and a function with two parameters.
func three(i api.LIns) []api.LFn {
	return []api.LFn{
		function("main", 0, 3, 3, block(withEnd(i)...), block(ret(-1))),
		function("two", 2, 2, 0, block(ret(1))),
	}
}

// 6.1: what each instruction's fields may be, at their ends and beyond.
func TestRulesOfInstructions(t *testing.T) {
	const ok, bad = api.OK, api.ErrLir
	for _, c := range []struct {
		i api.LIns
		e api.Errno
	}{
		{constant(0, math.MinInt64), ok}, {constant(2, math.MaxInt64), ok}, {constant(2, 3), ok}, {constant(3, 0), bad}, {constant(-1, 0), bad}, {constant(math.MinInt, 0), bad},
		{move(0, 2), ok}, {move(2, 0), ok}, {move(1, 1), ok}, {move(3, 0), bad}, {move(0, 3), bad}, {move(-1, 0), bad}, {move(0, -1), bad},
		{bin(2, "sltu", 2, 2), ok}, {bin(3, "add", 0, 0), bad}, {bin(0, "add", 3, 0), bad}, {bin(0, "add", 0, 3), bad}, {bin(-1, "add", 0, 0), bad}, {bin(0, "add", -1, 0), bad}, {bin(0, "add", 0, -1), bad},
		{bin(0, "", 0, 0), bad}, {bin(0, "Add", 0, 0), bad}, {bin(0, "addw", 0, 0), bad}, {bin(0, "divu", 0, 0), bad}, {bin(0, "two", 0, 0), bad}, {bin(0, "rt.read", 0, 0), bad},
		{load(2, 2, 0), ok}, {load(0, 0, -1<<31), ok}, {load(0, 0, 1<<31-8), ok}, {load(0, 0, -8), ok}, {load(0, 0, 1<<31-1), bad}, {load(0, 0, 1<<31), bad}, {load(0, 0, -1<<31-8), bad}, {load(0, 0, 4), bad}, {load(0, 0, -4), bad}, {load(0, 0, 1), bad}, {load(0, 0, math.MinInt64), bad},
		{load(3, 0, 0), bad}, {load(0, 3, 0), bad}, {load(-1, 0, 0), bad}, {load(0, -1, 0), bad},
		{store(2, 0, 2), ok}, {store(0, -1<<31, 0), ok}, {store(0, 1<<31-8, 0), ok}, {store(0, 1<<31, 0), bad}, {store(0, -1<<31-8, 0), bad}, {store(0, 12, 0), bad}, {store(0, math.MinInt64, 0), bad},
		{store(3, 0, 0), bad}, {store(0, 0, 3), bad}, {store(-1, 0, 0), bad}, {store(0, 0, -1), bad},
		{frame(2, 2), ok}, {frame(0, 0), ok}, {frame(0, 3), bad}, {frame(0, -1), bad}, {frame(3, 0), bad}, {frame(-1, 0), bad}, {frame(0, math.MaxInt64), bad}, {frame(0, 1<<32), bad},
		{calls(2, "two", 2, 2), ok}, {calls(-1, "two", 0, 1), ok}, {calls(0, "main"), ok}, {calls(3, "two", 0, 0), bad}, {calls(-2, "two", 0, 0), bad}, {calls(0, "two", 3, 0), bad}, {calls(0, "two", 0, -1), bad},
		{calls(0, "two"), bad}, {calls(0, "two", 0), bad}, {calls(0, "two", 0, 0, 0), bad}, {calls(0, "main", 0), bad}, {calls(0, "three", 0, 0), bad}, {calls(0, ""), bad}, {calls(0, "add", 0, 0), bad},
		{calls(0, "rt.print", 2), ok}, {calls(0, "rt.print"), bad}, {calls(0, "rt.print", 0, 0), bad}, {calls(0, "rt.print", 3), bad},
		{calls(0, "rt.read"), ok}, {calls(0, "rt.read", 0), bad}, {calls(-1, "rt.alloc", 2), ok}, {calls(0, "rt.alloc"), bad}, {calls(0, "rt.alloc", 0, 0), bad},
		{calls(2, "rt.free", 0, 2), ok}, {calls(0, "rt.free", 0), bad}, {calls(0, "rt.free", 0, 0, 0), bad}, {calls(0, "rt.stack"), bad}, {calls(0, "rt.start"), bad}, {calls(0, "rt."), bad}, {calls(0, "print", 0), bad},
		{jump(0), ok}, {jump(1), ok}, {jump(2), bad}, {jump(-1), bad},
		{branch(2, 1, 0), ok}, {branch(0, 1, 1), ok}, {branch(3, 1, 0), bad}, {branch(-1, 1, 0), bad}, {branch(0, 2, 0), bad}, {branch(0, 0, 2), bad}, {branch(0, -1, 0), bad}, {branch(0, 0, -1), bad},
		{ret(0), ok}, {ret(2), ok}, {ret(-1), ok}, {ret(3), bad}, {ret(-2), bad},
		{trap(0), ok}, {trap(255), ok}, {trap(256), bad}, {trap(-1), bad}, {trap(1 << 32), bad},
		{api.LIns{}, bad}, {api.LIns{Op: 12}, bad}, {api.LIns{Op: -1}, bad}, {api.LIns{Op: 1<<32 + api.LRet}, bad}, {api.LIns{Op: math.MinInt}, bad},
	} {
		wantCheck(t, "", three(c.i), c.e)
		if t.Failed() {
			t.Fatal(c.i)
		}
	}
}

// 6.1: fields that an operation has not are 0 or empty.
func TestFieldsThatAreNotThere(t *testing.T) {
	for _, c := range []struct {
		i   api.LIns
		has string
	}{
		{constant(1, 8), "D N"}, {move(1, 1), "D A"}, {bin(1, "add", 1, 1), "D A B Name"}, {load(1, 1, 8), "D A N"}, {store(1, 8, 1), "A B N"},
		{frame(1, 1), "D N"}, {calls(1, "two", 1, 1), "D Name Args"}, {jump(1), "To"}, {branch(1, 1, 1), "A To Else"}, {ret(1), "A"}, {ret(-1), "A"}, {trap(1), "N"},
	} {
		wantCheck(t, "as it is", three(c.i), api.OK)
		for _, field := range []string{"D", "A", "B", "N", "Name", "Args", "To", "Else"} {
			if slices.Contains(strings.Fields(c.has), field) {
				continue
			}
			for _, n := range []int{1, -1, 8} {
				i := c.i
				switch field {
				case "D":
					i.D = n
				case "A":
					i.A = n
				case "B":
					i.B = n
				case "N":
					i.N = int64(n)
				case "Name":
					i.Name = "add"
				case "Args":
					i.Args = []int{0}
				case "To":
					i.To = n
				case "Else":
					i.Else = n
				}
				wantCheck(t, field, three(i), api.ErrLir)
			}
		}
		i := c.i
		if len(i.Args) == 0 {
			i.Args = []int{} // R2
			wantCheck(t, "no Args", three(i), api.OK)
		}
	}
	// Without a register there, 0 is none.
	wantCheck(t, "no registers", []api.LFn{function("main", 0, 0, 1, block(frame(0, 0), ret(-1)))}, api.ErrLir)
	wantCheck(t, "no registers", []api.LFn{function("main", 0, 0, 1, block(ret(0)))}, api.ErrLir)
	wantCheck(t, "no registers", []api.LFn{function("main", 0, 0, 1, block(jump(0)))}, api.OK)
}

// 6.1: what is wrong is found in each function, block and place.
func TestWrongAnywhere(t *testing.T) {
	for f, fn := range whole() {
		for b, bl := range fn.Blocks {
			for k := range bl.Ins {
				l := whole()
				l[f].Blocks[b].Ins[k].Else = 99
				wantCheck(t, "Else", l, api.ErrLir)
			}
		}
	}
}

// 6.1: a function by itself.
func TestAlone(t *testing.T) {
	for _, f := range whole() {
		if e := Alone(f); e != api.OK {
			t.Error(f.Name, e)
		}
	}
	alone := func(i api.LIns) api.LFn { return function("f", 2, 3, 1, block(withEnd(i)...)) }
	eight := make([]int, 8)
	for _, c := range []struct {
		what string
		f    api.LFn
		e    api.Errno
	}{
		{"parameters", function("main", 7, 7, 0, block(ret(6))), api.OK},
		{"a call of any", alone(calls(-1, "zz")), api.OK},
		{"a call with 7", alone(calls(0, "zz", eight[:7]...)), api.OK},
		{"a call with 8", alone(calls(0, "zz", eight...)), api.ErrLir},
		{"a call of itself, with another number", alone(calls(0, "f", 0)), api.OK},
		{"a call of 64 bytes", alone(calls(0, strings.Repeat("z", 64))), api.OK},
		{"a call of 65 bytes", alone(calls(0, strings.Repeat("z", 65))), api.ErrLir},
		{"a call of no name", alone(calls(0, "")), api.ErrLir},
		{"a call of a wrong name", alone(calls(0, "9")), api.ErrLir},
		{"a call of another of the runtime", alone(calls(0, "rt.stack")), api.ErrLir},
		{"a call with a wrong register", alone(calls(0, "zz", 3)), api.ErrLir},
		{"print", alone(calls(0, "rt.print", 0)), api.OK},
		{"print of two", alone(calls(0, "rt.print", 0, 0)), api.ErrLir},
		{"read of one", alone(calls(0, "rt.read", 0)), api.ErrLir},
		{"free of one", alone(calls(0, "rt.free", 0)), api.ErrLir},
		{"alloc of none", alone(calls(0, "rt.alloc")), api.ErrLir},
		{"another rule", alone(frame(0, 1)), api.ErrLir},
		{"no name", function("", 0, 0, 0, block(ret(-1))), api.ErrLir},
		{"nothing", api.LFn{}, api.ErrLir},
		{"8 parameters", function("f", 8, 8, 0, block(ret(-1))), api.ErrLir},
		{"parameters below 0", function("f", -1, 8, 0, block(ret(-1))), api.ErrLir},
	} {
		if e := Alone(c.f); e != c.e {
			t.Errorf("%s: %v, not %v", c.what, e, c.e)
		}
	}
}

const allNames = "add sub mul mulh div rem and or xor sll srl sra slt sltu"

// 6.1: each operation by hand, with the edges that the chapter names.
func TestBinByHand(t *testing.T) {
	const least, most = math.MinInt64, math.MaxInt64
	for _, c := range []struct {
		name       string
		a, b, want int64
	}{
		{"add", 3, 4, 7}, {"add", most, 1, least}, {"add", least, -1, most}, {"sub", 3, 4, -1}, {"sub", least, 1, most}, {"sub", 0, least, least},
		{"mul", -3, 4, -12}, {"mul", least, -1, least}, {"mul", 1 << 32, 1 << 32, 0}, {"mulh", 1 << 32, 1 << 32, 1}, {"mulh", -1, 1, -1}, {"mulh", -1, -1, 0}, {"mulh", least, least, 1 << 62}, {"mulh", least, -1, 0}, {"mulh", least, 1, -1}, {"mulh", most, most, 1<<62 - 1}, {"mulh", most, least, -1 << 62},
		{"div", 7, 2, 3}, {"div", -7, 2, -3}, {"div", 7, -2, -3}, {"div", -7, -2, 3}, {"div", 7, 0, -1}, {"div", 0, 0, -1}, {"div", least, 0, -1}, {"div", least, -1, least}, {"div", most, -1, least + 1},
		{"rem", 7, 2, 1}, {"rem", -7, 2, -1}, {"rem", 7, -2, 1}, {"rem", -7, -2, -1}, {"rem", 7, 0, 7}, {"rem", least, 0, least}, {"rem", least, -1, 0}, {"rem", 0, 0, 0},
		{"and", 12, 10, 8}, {"and", -1, least, least}, {"or", 12, 10, 14}, {"or", least, most, -1}, {"xor", 12, 10, 6}, {"xor", -1, most, least},
		{"sll", 1, 63, least}, {"sll", 1, 64, 1}, {"sll", 1, 65, 2}, {"sll", 3, -1, least}, {"sll", -1, 1, -2},
		{"srl", -1, 63, 1}, {"srl", -1, 64, -1}, {"srl", least, 1, 1 << 62}, {"srl", -1, -1, 1}, {"srl", 8, 67, 1},
		{"sra", -1, 63, -1}, {"sra", least, 63, -1}, {"sra", least, 64, least}, {"sra", -8, 65, -4}, {"sra", 8, 1, 4}, {"sra", most, -1, 0},
		{"slt", 1, 2, 1}, {"slt", 2, 2, 0}, {"slt", -1, 0, 1}, {"slt", least, most, 1}, {"slt", most, least, 0},
		{"sltu", 1, 2, 1}, {"sltu", 2, 2, 0}, {"sltu", -1, 0, 0}, {"sltu", 0, -1, 1}, {"sltu", most, least, 1},
	} {
		if v, ok := Bin(c.name, c.a, c.b); v != c.want || !ok {
			t.Errorf("Bin(%s, %d, %d): %d, %v, not %d", c.name, c.a, c.b, v, ok, c.want)
		}
	}
	for _, name := range []string{"", "Add", "addw", "add ", " add", "addi", "divu", "remu", "mulhu", "mulhsu", "neg", "rt.print", "eq"} {
		if v, ok := Bin(name, 6, 3); v != 0 || ok {
			t.Errorf("Bin(%q): %d, %v", name, v, ok)
		}
	}
}

// without is a number as one without a sign.
func without(v int64) *big.Int { return new(big.Int).SetUint64(uint64(v)) }

// round are a number's lowest 64 bits with their sign.
func round(n *big.Int) int64 {
	low := new(big.Int).And(n, new(big.Int).SetUint64(math.MaxUint64))
	return int64(low.Uint64())
}

// bigBin is what the chapter says of an operation, in numbers without ends.
func bigBin(name string, a, b int64) int64 {
	x, y, by, r := big.NewInt(a), big.NewInt(b), uint(b)&63, new(big.Int)
	switch name {
	case "add":
		r.Add(x, y)
	case "sub":
		r.Sub(x, y)
	case "mul":
		r.Mul(x, y)
	case "mulh":
		r.Rsh(r.Mul(x, y), 64)
	case "div":
		r.SetInt64(-1)
		if b != 0 {
			r.Quo(x, y)
		}
	case "rem":
		r = x
		if b != 0 {
			r = new(big.Int).Rem(x, y)
		}
	case "and":
		r.And(x, y)
	case "or":
		r.Or(x, y)
	case "xor":
		r.Xor(x, y)
	case "sll":
		r.Lsh(x, by)
	case "srl":
		r.Rsh(without(a), by)
	case "sra":
		r.Rsh(x, by)
	case "slt":
		r.SetInt64(int64(1-x.Cmp(y)) / 2)
	case "sltu":
		r.SetInt64(int64(1-without(a).Cmp(without(b))) / 2)
	}
	return round(r)
}

func someNumbers(r *rand.Rand) []int64 {
	l := []int64{0, 1, 2, 3, 7, 31, 32, 62, 63, 64, 65, -1, -2, -3, -7, -63, -64, -65, math.MinInt64, math.MinInt64 + 1, math.MaxInt64, math.MaxInt64 - 1, 1 << 31, 1 << 32, -1 << 31, -1 << 32, 1<<32 - 1}
	for range 25 {
		l = append(l, int64(r.Uint64()), int64(r.Uint64())>>r.Intn(64))
	}
	return l
}

// 6.1: all operations, of all pairs of numbers that may matter; and Run does with them what Bin tells.
func TestBinAgainstBigNumbers(t *testing.T) {
	l := someNumbers(rand.New(rand.NewSource(1)))
	for _, name := range strings.Fields(allNames) {
		for _, a := range l {
			for _, b := range l {
				want := bigBin(name, a, b)
				if v, ok := Bin(name, a, b); v != want || !ok {
					t.Fatalf("Bin(%s, %d, %d): %d, %v, not %d", name, a, b, v, ok, want)
				}
			}
			for _, b := range []int64{0, -1, 3, math.MinInt64} {
				p := program(constant(0, a), constant(1, b), bin(2, name, 0, 1), show(2), ret(-1))
				wantRun(t, p, "", 99, done(0, 5, bigBin(name, a, b)))
			}
		}
	}
}

// 6.1: the blocks behind an instruction, of any instruction.
func TestNext(t *testing.T) {
	for _, c := range []struct {
		i    api.LIns
		want []int
	}{
		{jump(3), []int{3}}, {jump(0), []int{0}}, {jump(-5), []int{-5}}, {api.LIns{Op: api.LJump, To: 1, Else: 2}, []int{1}},
		{branch(0, 1, 2), []int{1, 2}}, {branch(0, 2, 1), []int{1, 2}}, {branch(0, 2, 2), []int{2}}, {branch(9, -1, math.MaxInt), []int{-1, math.MaxInt}}, {branch(0, 0, 0), []int{0}}, {branch(0, 5, -7), []int{-7, 5}},
		{ret(-1), nil}, {trap(1), nil}, {constant(1, 1), nil}, {calls(1, "f"), nil}, {api.LIns{}, nil}, {api.LIns{Op: 12, To: 1, Else: 2}, nil}, {api.LIns{Op: -8, To: 1}, nil}, {api.LIns{Op: api.LRet, To: 4, Else: 5}, nil},
	} {
		if l := Next(c.i); !slices.Equal(l, c.want) {
			t.Errorf("Next(%v): %v", c.i, l)
		}
	}
	for op := api.LConst; op <= api.LTrap; op++ {
		l := Next(api.LIns{Op: op, To: 1, Else: 2})
		if want := map[int]int{api.LJump: 1, api.LIf: 2}[op]; len(l) != want {
			t.Error(op, l)
		}
	}
}

// other is a name that a call could have instead.
func other(name string) string {
	if name == "rt.alloc" {
		return "rt.print"
	}
	return "rt.alloc"
}

// changes are whole with one field of one thing changed, right or not.
func changes() [][]api.LFn {
	var all [][]api.LFn
	add := func(change func(l []api.LFn)) { all = append(all, spoilt(change)) }
	add(func(l []api.LFn) { l[1], l[2] = l[2], l[1] })
	for f, fn := range whole() {
		add(func(l []api.LFn) { l[f].Name += "x" })
		add(func(l []api.LFn) { l[f].Params++ })
		add(func(l []api.LFn) { l[f].Regs++ })
		add(func(l []api.LFn) { l[f].Frame++ })
		add(func(l []api.LFn) { l[f].Blocks = append(l[f].Blocks, block(ret(-1))) })
		add(func(l []api.LFn) { l[f].Blocks = l[f].Blocks[1:] })
		for b, bl := range fn.Blocks {
			add(func(l []api.LFn) { l[f].Blocks[b].Ins = l[f].Blocks[b].Ins[1:] })
			add(func(l []api.LFn) { l[f].Blocks[b].Ins = append(l[f].Blocks[b].Ins, jump(0)) })
			for k := range bl.Ins {
				for _, by := range []int{1, -1} {
					at := func(change func(i *api.LIns)) {
						add(func(l []api.LFn) { change(&l[f].Blocks[b].Ins[k]) })
					}
					at(func(i *api.LIns) { i.Op += by })
					at(func(i *api.LIns) { i.D += by })
					at(func(i *api.LIns) { i.A += by })
					at(func(i *api.LIns) { i.B += by })
					at(func(i *api.LIns) { i.N += int64(by) })
					at(func(i *api.LIns) { i.N += int64(8 * by) })
					at(func(i *api.LIns) { i.To += by })
					at(func(i *api.LIns) { i.Else += by })
					at(func(i *api.LIns) { i.Name += "u" })
					at(func(i *api.LIns) { i.Name = "sub" })
					at(func(i *api.LIns) { i.Name = other(i.Name) })
					at(func(i *api.LIns) { i.Args = append(i.Args, by) })
					at(func(i *api.LIns) {
						i.Args = slices.Clone(i.Args)
						if len(i.Args) > 0 {
							i.Args[0] += by
						} else {
							i.Args = []int{0}
						}
					})
				}
			}
		}
	}
	return all
}

// 6.1: Same sees each field, of any programs, and none and nothing are the same.
func TestSame(t *testing.T) {
	if !Same(whole(), whole()) || !Same(nil, nil) || !Same(nil, []api.LFn{}) {
		t.Error("the same")
	}
	if Same(nil, whole()) || Same(whole(), whole()[:2]) || Same(whole()[:2], whole()) {
		t.Error("others")
	}
	empty := spoilt(func(l []api.LFn) { l[0].Blocks[0].Ins[0].Args = []int{} })
	if !Same(empty, whole()) || !Same(whole(), empty) {
		t.Error("no Args")
	}
	for k, l := range changes() {
		if Same(l, whole()) || Same(whole(), l) || !Same(l, l) {
			t.Errorf("%d: %v", k, l)
		}
	}
}
