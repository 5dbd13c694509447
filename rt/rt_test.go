package rt_test

import (
	"bytes"
	"math"
	"math/rand"
	"reflect"
	"slices"
	"strconv"
	"strings"
	"testing"

	"patina/api"
	"patina/asm"
	"patina/rt"
)

// 10: the plan of memory.
func TestConstants(t *testing.T) {
	if rt.TextBase != 65536 || rt.DataBase != 16777216 || rt.StackBase != 33554432 || rt.StackSize != 262144 || rt.Guard != 512 || rt.MaxBlock != 64 || rt.MaxBlocks != 256 {
		t.Error("constants")
	}
}

// 10.1: the labels that others call.
func TestLabels(t *testing.T) {
	want := []string{"rt.alloc", "rt.free", "rt.print", "rt.read", "rt.stack", "rt.start"}
	if l := rt.Labels(); !slices.Equal(l, want) {
		t.Error(l)
	}
	c, _ := imageOf(t, append(rt.Text(), main()...), rt.Data())
	for _, name := range want {
		if at, ok := asm.Find(c, name); !ok || at < rt.TextBase || at >= rt.TextBase+uint64(len(c.Text)) {
			t.Error(name, at, ok)
		}
	}
}

// 10.1: all labels begin with rt. , and no others are asked for but f.main.
func TestNames(t *testing.T) {
	own := map[string]int{}
	all := append(rt.Text(), rt.Data()...)
	for _, x := range all {
		if x.Kind == api.ItLabel {
			own[x.Name]++
			if !strings.HasPrefix(x.Name, "rt.") {
				t.Error("label", x.Name)
			}
		}
	}
	for name, n := range own {
		if n != 1 {
			t.Error("twice", name)
		}
	}
	main := 0
	for _, x := range all {
		if x.Name == "f.main" {
			main++
		} else if x.Name != "" && own[x.Name] == 0 {
			t.Error("asks for", x.Name)
		}
	}
	if main == 0 {
		t.Error("f.main is not asked for")
	}
}

// 10.1: the assembler takes them behind a program's own and ahead of it, with data of its own of any size on both sides; what they do is the same.
func TestBehindAndAhead(t *testing.T) {
	number := main(li(10, 8), call("rt.alloc"), li(11, -7), instr(api.OpSd, 0, 10, 11, 56), instr(api.OpLd, 10, 10, 0, 56), call("rt.print"))
	far := []api.Item{space(1 << 20), space(1 << 20)}
	for k, text := range [][]api.Item{
		append(rt.Text(), number...),
		append(slices.Clone(number), rt.Text()...),
		slices.Concat(rt.Text(), far, number),
		slices.Concat(number, far, rt.Text()),
	} {
		for _, n := range []int64{0, 1, 3, 7, 8, 4096, 1 << 20} {
			own := []api.Item{label("own"), space(n)}
			for _, data := range [][]api.Item{append(rt.Data(), own...), append(own, rt.Data()...)} {
				_, i := imageOf(t, text, data)
				if s := run(t, i, nil); !s.Halted || s.Code != 0 || string(s.Out) != "-7\n" {
					t.Error(k, n, s.Halted, s.Code, string(s.Out), s.Fault)
				}
			}
		}
	}
	if _, e, k := asm.Assemble(rt.Text(), rt.Data(), rt.TextBase, rt.DataBase); e != api.ErrLabel {
		t.Error("without a main", e, k)
	}
}

// R3, R6: each answer is new, and the same.
func TestAnswersAreNew(t *testing.T) {
	for k, tell := range []func() []api.Item{rt.Text, rt.Data} {
		first := tell()
		was := slices.Clone(first)
		for n := range first[:cap(first)] {
			first[:cap(first)][n] = api.Item{Kind: 77}
		}
		if !slices.Equal(tell(), was) || len(was) == 0 {
			t.Error("not the same", k)
		}
	}
	l := rt.Labels()
	was := slices.Clone(l)
	for n := range l[:cap(l)] {
		l[:cap(l)][n] = "?"
	}
	if !slices.Equal(rt.Labels(), was) {
		t.Error("labels")
	}
}

// startAt is a code with rt.start at an address.
func startAt(at uint64, text, data []byte) api.Code {
	return api.Code{Text: text, Data: data, Labels: []api.Label{{Name: "a", Addr: 1}, {Name: "rt.start", Addr: at}, {Name: "rt.start", Addr: 5}}}
}

// 10.2: the segments, with data and without.
func TestImage(t *testing.T) {
	text, data := []byte{1, 2, 3, 4, 5, 6, 7, 8}, []byte{9, 8, 7}
	stack := api.Segment{Addr: rt.StackBase, Perm: 6, Size: rt.StackSize}
	first := api.Segment{Addr: rt.TextBase, Perm: 5, Bytes: text, Size: 8}
	second := api.Segment{Addr: rt.DataBase, Perm: 6, Bytes: data, Size: 3}
	same := func(a, b api.Segment) bool {
		return a.Addr == b.Addr && a.Perm == b.Perm && a.Size == b.Size && bytes.Equal(a.Bytes, b.Bytes)
	}
	for _, c := range []struct {
		data []byte
		want []api.Segment
	}{{data, []api.Segment{first, second, stack}}, {nil, []api.Segment{first, stack}}, {[]byte{}, []api.Segment{first, stack}}} {
		i, e := rt.Image(startAt(rt.TextBase+4, text, c.data))
		if e != api.OK || i.Entry != rt.TextBase+4 || !slices.EqualFunc(i.Segments, c.want, same) {
			t.Errorf("%v, %v", i, e)
		}
	}
}

// 10.2: Image's errors, each with nothing beside it; as many bytes as may be, and one more.
func TestImageErrors(t *testing.T) {
	text, data := make([]byte, rt.DataBase-rt.TextBase+1), make([]byte, rt.StackBase-rt.DataBase+1)
	most, mostData := text[1:], data[1:]
	for _, c := range []struct {
		what string
		code api.Code
		e    api.Errno
	}{
		{"right", startAt(rt.TextBase, text[:4], nil), api.OK},
		{"one byte", startAt(rt.TextBase, text[:1], data[:1]), api.OK},
		{"an entry elsewhere", startAt(0, text[:4], nil), api.OK},
		{"nothing", api.Code{}, api.ErrArg},
		{"no label", api.Code{Text: text[:4], Data: data[:4]}, api.ErrArg},
		{"another label", api.Code{Text: text[:4], Labels: []api.Label{{Name: "rt.star"}, {Name: "rt.start2"}, {Name: "f.main"}, {Name: ""}}}, api.ErrArg},
		{"no text", startAt(rt.TextBase, nil, data[:4]), api.ErrArg},
		{"an empty text", startAt(rt.TextBase, []byte{}, nil), api.ErrArg},
		{"as much text as may be", startAt(rt.TextBase, most, nil), api.OK},
		{"too much text", startAt(rt.TextBase, text, nil), api.ErrArg},
		{"as much data as may be", startAt(rt.TextBase, text[:4], mostData), api.OK},
		{"too much data", startAt(rt.TextBase, text[:4], data), api.ErrArg},
		{"as much as may be of both", startAt(rt.TextBase, most, mostData), api.OK},
	} {
		i, e := rt.Image(c.code)
		if e != c.e || e != api.OK && (i.Entry != 0 || len(i.Segments) != 0) {
			t.Errorf("%s: %v", c.what, e)
		}
		if e == api.OK && (len(i.Segments[0].Bytes) != len(c.code.Text) || i.Segments[0].Size != uint64(len(c.code.Text))) {
			t.Errorf("%s: %d bytes", c.what, len(i.Segments[0].Bytes))
		}
		if e == api.OK && len(c.code.Data) > 0 && (len(i.Segments[1].Bytes) != len(c.code.Data) || i.Segments[1].Size != uint64(len(c.code.Data))) {
			t.Errorf("%s: %d bytes of data", c.what, len(i.Segments[1].Bytes))
		}
	}
}

// R3, R6: an image shares nothing with the code, nor with another image.
func TestImageShares(t *testing.T) {
	text, data := append(make([]byte, 0, 20), 1, 2, 3, 4), append(make([]byte, 0, 20), 5, 6)
	c := startAt(rt.TextBase, text, data)
	first, _ := rt.Image(c)
	second, _ := rt.Image(c)
	if !reflect.DeepEqual(first, second) {
		t.Error("not the same")
	}
	for _, s := range first.Segments {
		for n := range s.Bytes[:cap(s.Bytes)] {
			s.Bytes[:cap(s.Bytes)][n] = 99
		}
	}
	first.Segments[0].Addr = 1
	third, _ := rt.Image(c)
	if !reflect.DeepEqual(second, third) || !bytes.Equal(text[:20], append([]byte{1, 2, 3, 4}, make([]byte, 16)...)) || !bytes.Equal(data[:20], append([]byte{5, 6}, make([]byte, 18)...)) {
		t.Error("shared")
	}
	text[0], data[0] = 50, 50
	if second.Segments[0].Bytes[0] != 1 || second.Segments[1].Bytes[0] != 5 {
		t.Error("kept")
	}
}

// 10.3: the chapter's examples, and other ends.
func TestRuns(t *testing.T) {
	wantRun(t, "a number", "", 0, "-5\n", li(10, -5), call("rt.print"))
	wantRun(t, "the stack's end", "", 111, "", jump("rt.stack"))
	wantRun(t, "nothing", "", 0, "")
	wantRun(t, "main answers something", "", 0, "", li(10, 77))
	wantRun(t, "an end of its own", "", 42, "1\n", li(10, 1), call("rt.print"), li(10, 42), li(17, 93), instr(api.OpEcall, 0, 0, 0, 0))
	wantRun(t, "where the stack is", "", 0, "33816576\n33554944\n", instr(api.OpAddi, 10, 2, 0, 16), call("rt.print"), instr(api.OpAddi, 10, 3, 0, 0), call("rt.print"))
	wantRun(t, "the answers of print and free", "", 0, "9\n0\n0\n0\n", li(10, 9), call("rt.print"), call("rt.print"), li(10, 3), call("rt.alloc"), li(11, 3), call("rt.free"), call("rt.print"), call("rt.print"))
	// The runtime's own state is there when the machine begins with any registers.
	_, i := imageOf(t, append(rt.Text(), main(li(10, 4), call("rt.print"))...), rt.Data())
	if i.Entry%4 != 0 {
		t.Error(i.Entry)
	}
}

// 10.3 rt.print: numbers with every count of digits, both signs, and the ends.
func TestPrint(t *testing.T) {
	l := []int64{0, 1, -1, 2, 9, 10, -9, -10, 42, math.MaxInt64, math.MinInt64, math.MaxInt64 - 1, math.MinInt64 + 1, 1 << 32, -1 << 32, math.MaxInt32, math.MinInt32}
	for power := int64(1); ; power *= 10 {
		l = append(l, power, power-1, power+1, -power, 1-power, -power-1, 9*(power/10), 5*(power/10)+1)
		if power == 1_000_000_000_000_000_000 {
			break
		}
	}
	g := rand.New(rand.NewSource(1))
	for range 500 {
		l = append(l, int64(g.Uint64())>>g.Intn(64))
	}
	b := onBench(t, "", 0)
	for _, n := range l {
		b.state.Out = nil
		if v := b.call("rt.print", uint64(n)); v != 0 || string(b.state.Out) != strconv.FormatInt(n, 10)+"\n" {
			t.Errorf("%d: printed %q, answered %d", n, b.state.Out, v)
		}
	}
}

// 10.3 rt.read: every byte, to the input's end and beyond it.
func TestRead(t *testing.T) {
	var in []byte
	for n := range 256 {
		in = append(in, byte(n))
	}
	b := onBench(t, string(in), 0)
	for n := range 256 {
		if v := b.call("rt.read"); v != uint64(n) {
			t.Error(n, v)
		}
	}
	for range 3 {
		if v := b.call("rt.read"); v != math.MaxUint64 {
			t.Error("behind the end", v)
		}
	}
	if v := onBench(t, "", 0).call("rt.read"); v != math.MaxUint64 {
		t.Error("no input", v)
	}
	wantRun(t, "some input", "\xffA", 0, "255\n65\n-1\n-1\n", call("rt.read"), call("rt.print"), call("rt.read"), call("rt.print"), call("rt.read"), call("rt.print"), call("rt.read"), call("rt.print"))
}

// 10 rt.stack: the program ends with ExitStack, whatever is in the registers.
func TestStackEnd(t *testing.T) {
	if s, came := onBench(t, "", 0).end("rt.stack", 5); came || !s.Halted || s.Code != api.ExitStack || s.Fault != api.OK {
		t.Error(came, s.Halted, s.Code, s.Fault)
	}
}
