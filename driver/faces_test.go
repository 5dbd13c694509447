package driver

import (
	"bytes"
	"errors"
	"testing"

	"patina/api"
	"patina/elf"
	"patina/rt"
	"patina/rv"
)

// imageOfWords is an image of another make: instructions, and a page of data and of stack.
func imageOfWords(t *testing.T, l ...api.Instr) []byte {
	t.Helper()
	var text []byte
	for _, i := range l {
		w, e := rv.Encode(i)
		if e != api.OK {
			t.Fatal(e, i)
		}
		text = append(text, byte(w), byte(w>>8), byte(w>>16), byte(w>>24))
	}
	return written(t, api.Image{Entry: rt.TextBase, Segments: []api.Segment{{Addr: rt.TextBase, Perm: api.PermRead + api.PermExec, Bytes: text, Size: uint64(len(text))}, {Addr: 1 << 20, Perm: api.PermRead + api.PermWrite, Bytes: []byte{77}, Size: 8}}})
}

func written(t *testing.T, i api.Image) []byte {
	t.Helper()
	b, e := elf.Write(i)
	if e != api.OK {
		t.Fatal(e)
	}
	return b
}

func li(rd int, n int64) api.Instr { return api.Instr{Op: api.OpAddi, Rd: rd, Imm: n} }

// asks are the instructions that ask for a service.
func asks(n int64) []api.Instr { return []api.Instr{li(17, n), {Op: api.OpEcall}} }

func rows(l ...[]api.Instr) []api.Instr {
	var all []api.Instr
	for _, x := range l {
		all = append(all, x...)
	}
	return all
}

// 27.2: images of another make that halt, that come to a fault, and that go on; with as many steps as each needs, one less, and none.
func TestRun(t *testing.T) {
	prints := rows([]api.Instr{li(10, 'a')}, asks(64))
	for _, c := range []struct {
		what string
		l    []api.Instr
		in   string
		want api.Outcome // with steps enough
	}{
		{"halts", rows([]api.Instr{li(10, 7)}, asks(93)), "", api.Outcome{End: api.EndDone, Code: 7, Steps: 3}}, {"halts with its lowest bits", rows([]api.Instr{li(10, 300)}, asks(93)), "", api.Outcome{End: api.EndDone, Code: 44, Steps: 3}}, {"all registers are 0", rows([]api.Instr{{Op: api.OpAdd, Rd: 10, Rs1: 2, Rs2: 31}, {Op: api.OpAdd, Rd: 10, Rs1: 10, Rs2: 1}}, asks(93)), "", api.Outcome{End: api.EndDone, Steps: 4}},
		{"prints and halts", rows(prints, asks(93)), "", api.Outcome{End: api.EndDone, Code: 'a', Out: []byte("a"), Steps: 5}}, {"reads", rows(asks(63), asks(64), asks(63), asks(64), asks(63), asks(93)), "xy", api.Outcome{End: api.EndDone, Code: 255, Out: []byte("xy"), Steps: 12}}, {"loads what is laid", rows([]api.Instr{{Op: api.OpLui, Rd: 5, Imm: 256}, {Op: api.OpLbu, Rd: 10, Rs1: 5}}, asks(93)), "", api.Outcome{End: api.EndDone, Code: 77, Steps: 4}},
		{"ebreak", rows(prints, []api.Instr{{Op: api.OpEbreak}}), "", api.Outcome{End: api.EndUndef, Out: []byte("a"), Steps: 3}}, {"no such call", rows([]api.Instr{li(10, 5)}, asks(5)), "", api.Outcome{End: api.EndUndef, Steps: 2}}, {"behind the text", prints, "", api.Outcome{End: api.EndUndef, Out: []byte("a"), Steps: 3}}, {"a store to the text", []api.Instr{{Op: api.OpAuipc, Rd: 5}, {Op: api.OpSd, Rs1: 5}}, "", api.Outcome{End: api.EndUndef, Steps: 1}}, {"a load from nowhere", []api.Instr{{Op: api.OpLd, Rd: 5}}, "", api.Outcome{End: api.EndUndef}},
	} {
		image := imageOfWords(t, c.l...)
		n := c.want.Steps
		for _, steps := range []int{n + 1, n + 1000, 1 << 40} {
			wantRun(t, c.what, image, c.in, steps, c.want)
		}
		short := api.Outcome{End: api.EndFuel, Out: c.want.Out, Steps: n}
		switch c.want.End {
		case api.EndDone:
			wantRun(t, c.what, image, c.in, n, c.want)
			short.Steps--
			wantRun(t, c.what+", a step less", image, c.in, n-1, short)
		default: // the fault takes no step, but it must be come to
			wantRun(t, c.what+", no step for the fault", image, c.in, n, short)
		}
		wantRun(t, c.what+", no step", image, c.in, 0, api.Outcome{End: api.EndFuel})
	}
	ring := imageOfWords(t, rows(prints, []api.Instr{{Op: api.OpJal, Imm: -4}})...)
	wantRun(t, "a ring", ring, "", 11, api.Outcome{End: api.EndFuel, Out: []byte("aaaaa"), Steps: 11})
}

func wantRun(t *testing.T, what string, image []byte, in string, steps int, want api.Outcome) {
	t.Helper()
	o, e := Run(image, []byte(in), steps)
	if e != api.OK || o.End != want.End || o.Code != want.Code || !bytes.Equal(o.Out, want.Out) || o.Steps != want.Steps {
		t.Errorf("%s, %d steps: %v %v, not %v", what, steps, o, e, want)
	}
}

// 27.2, 27.3: errors in their order, with nothing beside them; and the most that may be handed in.
func TestRunErrors(t *testing.T) {
	good := imageOfWords(t, rows(asks(63), asks(93))...)
	most, more := make([]byte, api.MaxSource), make([]byte, api.MaxSource+1)
	bad := [][]byte{nil, good[:63], good[:len(good)-1], append(bytes.Clone(good), 0), changed(good, 0, 0), changed(good, 56, 0), changed(good, 56, 9), changed(good, 200, 1), changed(good, 24, 2), changed(good, 64+4, 3)}
	for k, b := range bad {
		if _, e, _ := elf.Read(b); e != api.ErrElf {
			t.Fatal(k, e)
		}
		wantError(t, b, nil, 9, api.ErrElf)
		wantError(t, b, most, 0, api.ErrElf)
		wantError(t, b, nil, -1, api.ErrArg)
		wantError(t, b, more, -1, api.ErrLong)
		if n, e := Cost(b); n != 0 || e != api.ErrElf {
			t.Error(k, n, e)
		}
	}
	wantError(t, good, more, 9, api.ErrLong)
	wantError(t, good, more, -1, api.ErrLong)
	wantError(t, good, nil, -1, api.ErrArg)
	wantError(t, good, most, -1<<63, api.ErrArg)
	wantRun(t, "the most input", good, string(most), 9, api.Outcome{End: api.EndDone, Steps: 4})
}

func wantError(t *testing.T, image, in []byte, steps int, want api.Errno) {
	t.Helper()
	if o, e := Run(image, in, steps); e != want || o.End+o.Code+o.Steps+len(o.Out) > 0 {
		t.Errorf("%d bytes, %d of input, %d steps: %v %v, not %v", len(image), len(in), steps, o, e, want)
	}
}

// changed are bytes of which one is another one.
func changed(b []byte, at int, to byte) []byte {
	b = bytes.Clone(b)
	b[at] = to
	return b
}

// 27.2: Source's input and fuel, in this order; and that no fuel is no error.
func TestSourceErrors(t *testing.T) {
	const source = "fn main() { let b = Box::new(read()); let c = b; print(*c); print(*b); }"
	most, more := bytes.Repeat([]byte{9}, api.MaxSource), make([]byte, api.MaxSource+1)
	for _, c := range []struct {
		in   []byte
		fuel int
		want api.Errno
	}{
		{more, 9, api.ErrLong}, {more, -1, api.ErrLong}, {nil, -1, api.ErrArg}, {most, -1 << 63, api.ErrArg}, {nil, 0, api.OK}, {most, 1 << 40, api.OK},
	} {
		o, d := Source(source, c.in, c.fuel)
		if d != (api.Diag{Code: c.want}) || c.want != api.OK && o.End+o.Code+o.Steps+len(o.Out) > 0 || c.fuel == 0 && (o.End != api.EndFuel || o.Steps > 0) {
			t.Errorf("%d of input, fuel %d: %v %v", len(c.in), c.fuel, o, d)
		}
	}
	if o, _ := Source(source, most, 1000); o.End != api.EndUndef || string(o.Out) != "9\n" {
		t.Error("a source whose moves are wrong:", o)
	}
}

// 27.3: images of another make cost something, too, and not more than may be: also the greatest ones.
func TestCost(t *testing.T) {
	least := imageOfWords(t, api.Instr{Op: api.OpEcall})
	greatest := written(t, api.Image{Entry: 0, Segments: []api.Segment{{Addr: 0, Perm: api.PermRead + api.PermExec, Bytes: make([]byte, api.MaxPages*api.PageSize), Size: api.MaxPages * api.PageSize}}})
	for _, image := range [][]byte{least, greatest} {
		if n, e := Cost(image); e != api.OK || n < 1 || n > 1<<40 {
			t.Error(n, e)
		}
	}
}

// Errors on their way up can be asked for, by what they wrap.
func TestErrorsWrapped(t *testing.T) {
	long, short := limited("isel", api.ErrLong), failed("drops", api.ErrLong)
	if !errors.Is(long, errLimit) || !errors.Is(long, api.ErrLong) || errors.Is(short, errLimit) || !errors.Is(short, api.ErrLong) {
		t.Error(long, short)
	}
	at := api.Diag{Code: api.ErrMoved, From: 3, To: 4}
	for _, c := range []struct {
		err  error
		text string
		want api.Diag
	}{
		{wrong("moves", at), "moves: error 220", at}, {long, "isel: error 2", api.Diag{Code: api.ErrLong, To: 5}}, {limited("asm", api.ErrFar), "asm: error 52", api.Diag{Code: api.ErrLong, To: 5}}, {failed("drops", api.ErrMir), "drops: error 5", api.Diag{Code: api.ErrMir, To: 5}}, {&inPass{"front", wrong("moves", at)}, "front: moves: error 220", at}, {&inPass{"rest", limited("rt", api.ErrArg)}, "rest: rt: error 1", api.Diag{Code: api.ErrLong, To: 5}},
	} {
		if d := diagOf(c.err, "12345"); d != c.want || c.err.Error() != c.text {
			t.Error(c.err, d)
		}
	}
	if wrong("parse", api.Diag{}) != nil || failed("drops", api.OK) != nil || limited("asm", api.OK) != nil {
		t.Error("errors of nothing")
	}
}
