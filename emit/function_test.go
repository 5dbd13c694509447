package emit_test

import (
	"math"
	"math/rand"
	"reflect"
	"slices"
	"strconv"
	"strings"
	"testing"

	"patina/api"
	"patina/asm"
	"patina/color"
	"patina/emit"
	"patina/lir"
	"patina/rt"
)

// sum is a function in which r0 and r1 clash.
func sum() api.LFn {
	return function("f", 0, 3, 0, block(constant(0, 1), constant(1, 2), bin(2, "add", 0, 1), ret(2)))
}

// notRight are functions that are not right, each for one reason.
func notRight() []api.LFn {
	with := func(change func(f *api.LFn)) api.LFn {
		f := function("f", 1, 3, 2, block(constant(1, 1), jump(1)), block(ret(0)))
		change(&f)
		return f
	}
	ins := func(i api.LIns) api.LFn {
		return with(func(f *api.LFn) { f.Blocks[0].Ins[0] = i })
	}
	end := func(i api.LIns) api.LFn {
		return with(func(f *api.LFn) { f.Blocks[1].Ins[0] = i })
	}
	return []api.LFn{
		{},
		with(func(f *api.LFn) { f.Name = "" }),
		with(func(f *api.LFn) { f.Name = "1f" }),
		with(func(f *api.LFn) { f.Name = "f.f" }),
		with(func(f *api.LFn) { f.Name = "rt.print" }),
		with(func(f *api.LFn) { f.Name = strings.Repeat("f", api.MaxName+1) }),
		with(func(f *api.LFn) { f.Params = -1 }),
		with(func(f *api.LFn) { f.Params, f.Regs = api.MaxParams+2, 20 }),
		with(func(f *api.LFn) { f.Params = 4 }),
		with(func(f *api.LFn) { f.Regs = lir.MaxRegs + 1 }),
		with(func(f *api.LFn) { f.Frame = -1 }),
		with(func(f *api.LFn) { f.Frame = lir.MaxFrame + 1 }),
		with(func(f *api.LFn) { f.Blocks = nil }),
		with(func(f *api.LFn) { f.Blocks[1].Ins = nil }),
		with(func(f *api.LFn) { f.Blocks = slices.Repeat(f.Blocks, api.MaxBlocks/2+1) }),
		with(func(f *api.LFn) { f.Blocks[0].Ins = slices.Repeat([]api.LIns{ret(0)}, 2) }),
		with(func(f *api.LFn) { f.Blocks[0].Ins = f.Blocks[0].Ins[:1] }),
		with(func(f *api.LFn) {
			f.Blocks[1].Ins = append(slices.Repeat([]api.LIns{move(0, 0)}, lir.MaxIns), ret(0))
		}),
		ins(api.LIns{}), ins(api.LIns{Op: 12}), ins(api.LIns{Op: -1}),
		ins(constant(3, 0)), ins(constant(-1, 0)), ins(move(0, 3)), ins(bin(0, "plus", 0, 0)), ins(bin(0, "", 0, 0)), ins(bin(0, "add", 0, 3)), ins(bin(0, "divu", 0, 0)),
		ins(load(0, 0, 4)), ins(load(0, 0, 1<<31)), ins(load(0, 0, -1<<31-8)), ins(store(0, 1, 0)), ins(store(-1, 0, 0)),
		ins(frame(0, 2)), ins(frame(0, -1)), ins(calls(-2, "g")), ins(calls(0, "g.g")), ins(calls(0, "rt.stack")), ins(calls(0, "rt.print")), ins(calls(0, "rt.free", 0)),
		ins(calls(0, "rt.read", 0)), ins(calls(0, "g", 0, 0, 0, 0, 0, 0, 0, 0)), ins(calls(0, "g", 3)),
		end(jump(2)), end(jump(-1)), end(branch(0, 0, 2)), end(branch(3, 0, 0)), end(ret(-2)), end(ret(3)), end(trap(-1)), end(trap(256)),
	}
}

// 9.1, R1, R4: functions that are not right are ErrLir, whatever the colours; colours that are not are ErrColor; nothing stands beside an error.
func TestFunctionErrors(t *testing.T) {
	want := func(what string, f api.LFn, e api.Errno, places ...int) {
		t.Helper()
		l, got := emit.Function(f, places)
		if got != e || e != api.OK && len(l) != 0 || e == api.OK && len(l) == 0 {
			t.Errorf("%s: %d items, %v, not %v", what, len(l), got, e)
		}
	}
	for k, f := range notRight() {
		for _, places := range [][]int{nil, {0, 1, 2}, {0, 0, 0}, {99, 0, 0}} {
			want("not right "+strconv.Itoa(k), f, api.ErrLir, places...)
		}
	}
	f := sum()
	want("right", f, api.OK, 0, 1, 0)
	want("the greatest colour", f, api.OK, 11, 10, 11)
	want("slots", f, api.OK, -1, -2, -1)
	want("the greatest slot", f, api.OK, -1-color.MaxSlots, -1, 0)
	want("none", f, api.ErrColor)
	want("too few", f, api.ErrColor, 0, 1)
	want("too many", f, api.ErrColor, 0, 1, 2, 3)
	want("colour 12", f, api.ErrColor, 0, 1, color.Colors)
	want("colour 31", f, api.ErrColor, 31, 1, 0)
	want("colour 99", f, api.ErrColor, 0, 99, 0)
	want("the greatest number", f, api.ErrColor, 0, 1, math.MaxInt)
	want("a slot too far", f, api.ErrColor, 0, 1, -2-color.MaxSlots)
	want("the least number", f, api.ErrColor, 0, 1, math.MinInt)
	want("two that clash in a colour", f, api.ErrColor, 3, 3, 0)
	want("two that clash in a slot", f, api.ErrColor, -3, -3, 0)
	both := function("f", 2, 2, 0, block(ret(-1)))
	want("parameters that nobody reads", both, api.ErrColor, 4, 4)
	want("parameters that nobody reads", both, api.OK, 4, 5)
	unset := function("f", 1, 2, 0, block(ret(1)))
	want("a parameter and one that is never set", unset, api.ErrColor, 0, 0)
	want("a parameter and one that is never set", unset, api.OK, 0, -1)
	want("no registers", function("f", 0, 0, 0, block(ret(-1))), api.OK)
	want("no registers, one colour", function("f", 0, 0, 0, block(ret(-1))), api.ErrColor, 0)
}

// everything is a function with each Op.
func everything(name string) api.LFn {
	return function(name, 2, 6, 3,
		block(constant(2, 1<<40), move(3, 2), bin(4, "mul", 0, 3), frame(5, 2), store(5, -8, 4), load(3, 5, -8), calls(4, "g", 3, 2), calls(-1, "rt.print", 4), branch(4, 1, 2)),
		block(jump(0)), block(branch(1, 3, 4)), block(ret(3)), block(trap(7)))
}

// 9.1: each item is right; labels begin with f. and the Name, no two the same; the function's own is there; others are called at theirs.
func TestFunctionItems(t *testing.T) {
	for _, name := range []string{"f", "main", "_", "g", "Z9_z", strings.Repeat("n", api.MaxName)} {
		f := everything(name)
		for k, choose := range choosers(rand.New(rand.NewSource(2))) {
			l, e := emit.Function(f, choose(f))
			if e != api.OK {
				t.Fatal(name, k, e)
			}
			own, called := 0, map[string]bool{}
			for _, x := range l {
				if x.Kind == api.ItLabel && !strings.HasPrefix(x.Name, "f."+name) {
					t.Error("label", x.Name)
				}
				if x.Kind == api.ItLabel && x.Name == "f."+name {
					own++
				}
				called[x.Name] = called[x.Name] || x.Kind != api.ItLabel
			}
			if own != 1 || !called["f.g"] || !called["rt.print"] || called["f.rt.print"] || called["g"] {
				t.Error(name, own, called)
			}
			for label := range called {
				if !strings.HasPrefix(label, "f."+name) && label != "f.g" && label != "rt.print" && label != "rt.stack" && label != "" {
					t.Error("asks for", label)
				}
			}
			onBench(t, l)
		}
	}
}

// 9.1, 9.2: labels of functions whose names begin with each other's do not meet.
func TestLabelsApart(t *testing.T) {
	var l []api.LFn
	for k, name := range []string{"main", "f", "f1", "f_1", "f_0", "f0", "f11", "main0", "main_0", "mainclear", "f_", "f__", "ff", "g", "a", "ab", "abc", "b1", "b", "b10", "b_10", "b_back"} {
		f := everything(name)
		f.Params, f.Name = min(2, 2*k), name
		l = append(l, f)
	}
	for k := range l {
		l[k].Blocks = slices.Repeat(l[k].Blocks, 5) // more than ten blocks
	}
	for k, x := range [][]api.Item{ofProgram(t, l), items(t, l, bySlots)} {
		if _, e, at := asm.Assemble(append(rt.Text(), x...), rt.Data(), rt.TextBase, rt.DataBase); e != api.OK {
			t.Error(k, e, at)
		}
	}
}

// R3, R6: nothing that is handed in is changed or shared, and the same is told again.
func TestFunctionShares(t *testing.T) {
	f := everything("f")
	places := append(make([]int, 0, 20), byColor(f)...)
	wasF, wasPlaces := everything("f"), slices.Clone(places[:20])
	first, e := emit.Function(f, places)
	if e != api.OK {
		t.Fatal(e)
	}
	was := slices.Clone(first)
	for k := range first[:cap(first)] {
		first[:cap(first)][k] = api.Item{Kind: 99}
	}
	second, _ := emit.Function(f, places)
	if !slices.Equal(second, was) {
		t.Error("not the same again")
	}
	if !reflect.DeepEqual(f, wasF) || !slices.Equal(places[:20], wasPlaces) {
		t.Error("an argument was changed")
	}
	l := []api.LFn{function("main", 0, 0, 0, block(ret(-1))), f, everything("g")}
	first, _ = emit.Program(l)
	was = slices.Clone(first)
	for k := range first[:cap(first)] {
		first[:cap(first)][k] = api.Item{Kind: 99}
	}
	if second, _ = emit.Program(l); !slices.Equal(second, was) || len(was) == 0 {
		t.Error("Program: not the same again")
	}
	if !reflect.DeepEqual(l[1:], []api.LFn{wasF, everything("g")}) {
		t.Error("Program: an argument was changed")
	}
}

// P1: whatever is handed in, a call ends, and tells an error or items.
func TestFunctionAnything(t *testing.T) {
	g := rand.New(rand.NewSource(3))
	numbers := []int{0, 0, 0, 1, 1, 2, 3, -1, -2, 7, 8, 12, -4097, -4098, 4096, 4097, math.MinInt, math.MaxInt}
	n := func() int { return numbers[g.Intn(len(numbers))] }
	names := []string{"", "f", "g", "add", "rt.print", "rt.x", "f.", "é"}
	right := 0
	for range 4000 {
		f := everything("f")
		if g.Intn(2) == 0 {
			f = sum()
		}
		places := byGreedy(f)
		b := f.Blocks[g.Intn(len(f.Blocks))]
		i := &b.Ins[g.Intn(len(b.Ins))]
		switch g.Intn(10) {
		case 0:
			f.Params, f.Regs = n(), n()
		case 1:
			f.Frame = n()
		case 2:
			f.Name = names[g.Intn(len(names))]
		case 3:
			i.Op, i.D = n(), n()
		case 4:
			i.A, i.B, i.N = n(), n(), int64(n())
		case 5:
			i.To, i.Else = n(), n()
		case 6:
			i.Name, i.Args = names[g.Intn(len(names))], []int{n(), n()}[:g.Intn(3)]
		default:
			places[g.Intn(len(places))] = n()
		}
		want := lir.Alone(f)
		if want == api.OK {
			want = color.Check(f, color.Colors, places)
		}
		l, e := emit.Function(f, places)
		if e != want || (e == api.OK) != (len(l) > 0) {
			t.Fatal(f, places, e, want, len(l))
		}
		if e == api.OK {
			right++
		}
		want = lir.Check([]api.LFn{f})
		if l, e := emit.Program([]api.LFn{f}); e != want || (e == api.OK) != (len(l) > 0) {
			t.Fatal(f, e, want, len(l))
		}
	}
	if right < 200 {
		t.Error("too few that are right", right)
	}
}
