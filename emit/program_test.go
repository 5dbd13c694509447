package emit_test

import (
	"bytes"
	"strconv"
	"strings"
	"testing"

	"patina/api"
	"patina/asm"
	"patina/emit"
	"patina/rt"
)

// manyFunctions is a program of so many functions: each one calls the next one and adds its number.
func manyFunctions(count int) []api.LFn {
	l := []api.LFn{function("main", 0, 2, 0, block(constant(0, 0), ret(-1)))}
	for k := 1; k < count; k++ {
		name := "n" + strconv.Itoa(k)
		last := &l[len(l)-1].Blocks[0]
		if k == 1 {
			last.Ins = []api.LIns{constant(0, 0), calls(1, name, 0), prints(1), ret(-1)}
		} else {
			last.Ins = []api.LIns{calls(1, name, 0), constant(0, int64(k-1)), bin(0, "add", 0, 1), ret(0)}
		}
		l = append(l, function(name, 1, 2, 0, block(constant(1, int64(k)), bin(0, "add", 0, 1), ret(0))))
	}
	return l
}

// 9.2: as many functions as there may be, and one more; the functions' items one behind the other.
func TestProgramMost(t *testing.T) {
	for _, n := range []int{1, 2, 3, api.MaxItems} {
		l := manyFunctions(n)
		x := ofProgram(t, l)
		wantProgram(t, strconv.Itoa(n), l, x, nil)
		c, _, _ := asm.Assemble(append(rt.Text(), x...), rt.Data(), rt.TextBase, rt.DataBase)
		at := uint64(0)
		for _, f := range l {
			here, ok := asm.Find(c, "f."+f.Name)
			if !ok || here <= at {
				t.Error("out of order", f.Name, here, at, ok)
			}
			at = here
		}
	}
	if x, e := emit.Program(manyFunctions(api.MaxItems + 1)); e != api.ErrLong || len(x) != 0 {
		t.Error(len(x), e)
	}
	if x, e := emit.Program(make([]api.LFn, api.MaxItems+1)); e != api.ErrLong || len(x) != 0 {
		t.Error("ahead of ErrLir", len(x), e)
	}
	if x, e := emit.Program(make([]api.LFn, api.MaxItems)); e != api.ErrLir || len(x) != 0 {
		t.Error(len(x), e)
	}
}

// 9.2: programs that are not right.
func TestProgramErrors(t *testing.T) {
	main := function("main", 0, 2, 0, block(calls(0, "f", 0, 1), ret(-1)))
	f := function("f", 2, 2, 0, block(ret(0)))
	wrong := map[string][]api.LFn{
		"none":                      {},
		"nil":                       nil,
		"a main with parameters":    {f, main},
		"the same name twice":       {main, f, f},
		"a call of none":            {main},
		"a call with one too few":   {main, function("f", 3, 3, 0, block(ret(0)))},
		"a call with one too many":  {main, function("f", 1, 1, 0, block(ret(0)))},
		"rt.print with none":        {function("main", 0, 1, 0, block(calls(0, "rt.print"), ret(-1)))},
		"a runtime's that is none":  {function("main", 0, 1, 0, block(calls(0, "rt.start"), ret(-1)))},
		"a function without blocks": {main, function("f", 2, 2, 0)},
		"a name that is none":       {main, f, function("f.f", 0, 0, 0, block(ret(-1)))},
	}
	for what, l := range wrong {
		if x, e := emit.Program(l); e != api.ErrLir || len(x) != 0 {
			t.Errorf("%s: %d items, %v", what, len(x), e)
		}
	}
	for k, f := range notRight() {
		if x, e := emit.Program([]api.LFn{main, function("f", 2, 2, 0, block(ret(0))), f}); e != api.ErrLir || len(x) != 0 {
			t.Errorf("not right %d: %d items, %v", k, len(x), e)
		}
	}
	if x, e := emit.Program([]api.LFn{main, f}); e != api.OK || len(x) == 0 {
		t.Error(len(x), e)
	}
}

// 9.4: programs by hand, with what they print; with places of many kinds.
func TestProgramsByHand(t *testing.T) {
	factorial := function("fact", 1, 3, 0,
		block(branch(0, 1, 2)),
		block(constant(1, 1), bin(1, "sub", 0, 1), calls(2, "fact", 1), bin(2, "mul", 2, 0), ret(2)),
		block(constant(1, 1), ret(1)))
	// echo sums the bytes of the input, and prints each of them, by a loop.
	echo := function("echo", 0, 4, 0,
		block(constant(1, 0), jump(1)),
		block(calls(0, "rt.read"), bin(2, "slt", 0, 3), branch(2, 3, 2)),
		block(prints(0), bin(1, "add", 1, 0), jump(1)),
		block(ret(1)))
	// list makes a list of Boxes on the heap, sums it by calls within one another, and gives it back.
	push := function("push", 2, 4, 0, block(constant(2, 2), calls(3, "rt.alloc", 2), store(3, 0, 0), store(3, 8, 1), ret(3)))
	total := function("total", 1, 3, 0,
		block(branch(0, 1, 2)),
		block(load(1, 0, 8), calls(1, "total", 1), load(2, 0, 0), bin(2, "add", 2, 1), ret(2)),
		block(ret(-1)))
	drop := function("drop", 1, 3, 0,
		block(branch(0, 1, 2)),
		block(load(1, 0, 8), constant(2, 2), calls(2, "rt.free", 0, 2), prints(2), calls(-1, "drop", 1), ret(-1)),
		block(ret(-1)))
	list := function("main", 0, 4, 0,
		block(constant(0, 0), constant(1, 10), jump(1)),
		block(calls(0, "push", 1, 0), constant(2, 1), bin(1, "sub", 1, 2), branch(1, 1, 2)),
		block(calls(3, "total", 0), prints(3), calls(3, "drop", 0), prints(3), ret(-1)))
	for _, c := range []struct {
		what string
		l    []api.LFn
		in   string
		out  string
		code int
	}{
		{"the chapter's", []api.LFn{function("main", 0, 1, 0, block(constant(0, 7), prints(0), ret(-1)))}, "", "7\n", 0},
		{"nothing", []api.LFn{function("main", 0, 0, 0, block(ret(-1)))}, "", "", 0},
		{"an answer of main's", []api.LFn{function("main", 0, 1, 0, block(constant(0, 9), ret(0)))}, "", "", 0},
		{"a trap", []api.LFn{function("main", 0, 1, 0, block(constant(0, 5), prints(0), trap(101)))}, "", "5\n", 101},
		{"a factorial", []api.LFn{function("main", 0, 1, 0, block(constant(0, 10), calls(0, "fact", 0), prints(0), ret(-1))), factorial}, "", "3628800\n", 0},
		{"the input", []api.LFn{function("main", 0, 1, 0, block(calls(0, "echo"), prints(0), calls(0, "rt.read"), prints(0), ret(-1))), echo}, "AZ\x00\xff", "65\n90\n0\n255\n410\n-1\n", 0},
		{"no input", []api.LFn{function("main", 0, 1, 0, block(calls(0, "echo"), prints(0), ret(-1))), echo}, "", "0\n", 0},
		{"a list", []api.LFn{list, push, total, drop}, "", "55\n" + strings.Repeat("0\n", 11), 0},
		{"what the runtime answers", []api.LFn{function("main", 0, 2, 0, block(constant(0, 3), calls(1, "rt.print", 0), calls(0, "rt.print", 1), prints(0), ret(-1)))}, "", "3\n0\n0\n", 0},
	} {
		wantAllPlaces(t, c.what, c.l, []byte(c.in))
		if s := played(t, ofProgram(t, c.l), []byte(c.in)); string(s.Out) != c.out || s.Code != c.code || !s.Halted {
			t.Errorf("%s: printed %q, code %d", c.what, s.Out, s.Code)
		}
	}
}

// 9.4: calls in one another without an end come to the stack's end; what they printed is a beginning.
func TestStackEndOfProgram(t *testing.T) {
	for _, words := range []int{0, 1, 7, 100, 4096} {
		down := function("down", 1, 3, words, block(constant(1, 1), bin(2, "add", 0, 1), prints(2), calls(2, "down", 2), bin(2, "add", 2, 0), ret(2)))
		l := []api.LFn{function("main", 0, 1, 0, block(calls(0, "down", 0), prints(0), ret(-1))), down}
		for k, x := range [][]api.Item{ofProgram(t, l), items(t, l, bySlots)} {
			s := played(t, x, nil)
			if !s.Halted || s.Code != api.ExitStack || s.Fault != api.OK {
				t.Fatal(words, k, s.Halted, s.Code, s.Fault)
			}
			var want bytes.Buffer
			for n := 1; want.Len() < len(s.Out); n++ {
				want.WriteString(strconv.Itoa(n) + "\n")
			}
			if len(s.Out) == 0 || want.String() != string(s.Out) {
				t.Errorf("%d words, %d: %q", words, k, s.Out)
			}
		}
	}
}

// 9.4: the heap's end ends a program with its code.
func TestHeapEndOfProgram(t *testing.T) {
	l := []api.LFn{function("main", 0, 2, 0, block(constant(0, 64), jump(1)), block(calls(1, "rt.alloc", 0), store(1, 504, 1), jump(1)))}
	if s := played(t, ofProgram(t, l), nil); !s.Halted || s.Code != api.ExitHeap || s.Fault != api.OK {
		t.Error(s.Halted, s.Code, s.Fault)
	}
}
