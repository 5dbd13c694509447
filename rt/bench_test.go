package rt_test

import (
	"bytes"
	"slices"
	"testing"

	"patina/api"
	"patina/asm"
	"patina/cpu"
	"patina/elf"
	"patina/rt"
)

func label(name string) api.Item { return api.Item{Kind: api.ItLabel, Name: name} }

func instr(op, rd, rs1, rs2 int, imm int64) api.Item {
	return api.Item{Kind: api.ItInstr, I: api.Instr{Op: op, Rd: rd, Rs1: rs1, Rs2: rs2, Imm: imm}}
}

func li(rd int, n int64) api.Item {
	return api.Item{Kind: api.ItLi, I: api.Instr{Rd: rd, Imm: n}}
}

func call(name string) api.Item {
	return api.Item{Kind: api.ItCall, Name: name, I: api.Instr{Rd: 1}}
}

func jump(name string) api.Item { return api.Item{Kind: api.ItJump, Name: name} }

func space(n int64) api.Item { return api.Item{Kind: api.ItSpace, I: api.Instr{Imm: n}} }

// main is a main that keeps its way back on the stack.
func main(l ...api.Item) []api.Item {
	head := []api.Item{label("f.main"), instr(api.OpAddi, 2, 2, 0, -16), instr(api.OpSd, 0, 2, 1, 0)}
	return append(append(head, l...), instr(api.OpLd, 1, 2, 0, 0), instr(api.OpAddi, 2, 2, 0, 16), instr(api.OpJalr, 0, 1, 0, 0))
}

// imageOf is an image of a text and a data.
func imageOf(t *testing.T, text, data []api.Item) (api.Code, api.Image) {
	t.Helper()
	c, e, k := asm.Assemble(text, data, rt.TextBase, rt.DataBase)
	if e != api.OK {
		t.Fatal("Assemble", e, k)
	}
	i, e := rt.Image(c)
	if e != api.OK {
		t.Fatal("Image", e)
	}
	return c, i
}

// run is what a machine does that begins at an image.
func run(t *testing.T, i api.Image, in []byte) api.Cpu {
	t.Helper()
	s, pages, e := elf.Load(i)
	if e != api.OK {
		t.Fatal("Load", e)
	}
	m, e := cpu.New(s, pages, in)
	if e != api.OK {
		t.Fatal("New", e)
	}
	m.Run(10_000_000)
	return m.State()
}

// wantRun runs the runtime with a main, which must end with a code, and print something.
func wantRun(t *testing.T, what string, in string, code int, out string, l ...api.Item) {
	t.Helper()
	_, i := imageOf(t, append(rt.Text(), main(l...)...), rt.Data())
	s := run(t, i, []byte(in))
	if !s.Halted || s.Fault != api.OK || s.Code != code || string(s.Out) != out {
		t.Errorf("%s: halted %v, fault %v, code %d, printed %q; not %d and %q", what, s.Halted, s.Fault, s.Code, s.Out, code, out)
	}
}

// bench is a machine at rest, in which the runtime's functions are called one by one. Below the stack's pointer there are just Guard bytes.
type bench struct {
	t     *testing.T
	code  api.Code
	state api.Cpu
	pages []api.Page
	in    []byte
	data  int // how many bytes the data has
	ahead int // how many of them, ahead of the runtime's, are the program's own
}

// The stack's pointer on a bench: the limit's lowest place.
const pointer = rt.StackBase + rt.Guard

// behind is how many bytes of the data, behind the runtime's, are the program's own.
const behind = 24

// onBench lays the runtime, behind a text of a program's own, and between data of its own, of which so many bytes are ahead.
func onBench(t *testing.T, in string, ahead int) *bench {
	t.Helper()
	text := append(main(), label("back"), instr(api.OpEbreak, 0, 0, 0, 0))
	data := append([]api.Item{label("ahead"), space(int64(ahead))}, rt.Data()...)
	c, i := imageOf(t, append(text, rt.Text()...), append(data, label("behind"), space(behind)))
	s, pages, e := elf.Load(i)
	if e != api.OK {
		t.Fatal("Load", e)
	}
	n := 0
	for n < len(pages) && pages[n].Base <= rt.StackBase {
		n++
	}
	b := &bench{t: t, code: c, state: s, pages: pages[:n], in: []byte(in), data: len(c.Data), ahead: ahead}
	b.write(rt.DataBase, ahead, 0xaa)
	b.write(rt.DataBase+uint64(b.data)-behind, behind, 0xbb)
	return b
}

// isFree tells whether so many bytes at an address lie in the data, and are not the program's own.
func (b *bench) isFree(at uint64, count int) bool {
	return at >= rt.DataBase+uint64(b.ahead) && at+uint64(count) <= rt.DataBase+uint64(b.data)-behind
}

func (b *bench) address(name string) uint64 {
	b.t.Helper()
	at, ok := asm.Find(b.code, name)
	if !ok {
		b.t.Fatal("no label", name)
	}
	return at
}

// end calls a function of the runtime with something in all registers, and tells the machine's state behind it, and whether it came back. Where it did, registers that must be kept are, and no memory is changed but the data that is not the program's own, and the stack below its pointer.
func (b *bench) end(name string, args ...uint64) (api.Cpu, bool) {
	b.t.Helper()
	c := b.state
	for r := range 31 {
		c.Regs[r+1] = 0xfeed_0000_0000_0000 + uint64(r)*0x101_0001
	}
	copy(c.Regs[10:], args)
	c.PC, c.Regs[1], c.Regs[2], c.Regs[3] = b.address(name), b.address("back"), pointer, pointer
	m, e := cpu.New(c, b.pages, b.in)
	if e != api.OK {
		b.t.Fatal("New", e)
	}
	m.Run(1_000_000)
	s := m.State()
	if s.Fault != api.FaultCall || s.PC != c.Regs[1] {
		return s, false
	}
	for r := range 32 {
		if kept := r == 2 || r == 3 || r == 8 || r == 9 || r >= 18 && r <= 27; kept && s.Regs[r] != c.Regs[r] {
			b.t.Errorf("%s: x%d was %x, is %x", name, r, c.Regs[r], s.Regs[r])
		}
	}
	b.keep(name, m.Pages())
	s.Fault = api.OK
	b.state = s
	return s, true
}

// keep takes the pages as they are behind a call.
func (b *bench) keep(name string, pages []api.Page) {
	b.t.Helper()
	for n, p := range pages {
		from := 0
		if p.Base >= rt.DataBase && p.Base < rt.StackBase {
			from = api.PageSize
		} else if p.Base == rt.StackBase {
			from = rt.Guard
		}
		if !bytes.Equal(p.Bytes[from:], b.pages[n].Bytes[from:]) {
			b.t.Errorf("%s: memory at %x was changed", name, p.Base)
		}
	}
	b.pages = pages
	own := append(b.bytes(rt.DataBase, b.ahead), b.bytes(rt.DataBase+uint64(b.data)-behind, behind)...)
	if !bytes.Equal(own, append(bytes.Repeat([]byte{0xaa}, b.ahead), bytes.Repeat([]byte{0xbb}, behind)...)) {
		b.t.Errorf("%s: the program's own data was changed", name)
	}
}

// call is end of one that must come back, and what it answers.
func (b *bench) call(name string, args ...uint64) uint64 {
	b.t.Helper()
	s, came := b.end(name, args...)
	if !came {
		b.t.Fatalf("%s(%x): halted %v, code %d, fault %v at %x", name, args, s.Halted, s.Code, s.Fault, s.PC)
	}
	return s.Regs[10]
}

// bytes are those of memory from an address on, as they stand; they lie in the data.
func (b *bench) bytes(at uint64, count int) []byte {
	b.t.Helper()
	if from := int(at - rt.DataBase); at < rt.DataBase || from+count > b.data {
		b.t.Fatalf("%d bytes at %x are not in the data", count, at)
	}
	l := make([]byte, count)
	for k := range l {
		l[k] = *b.byte(at + uint64(k))
	}
	return l
}

// byte is one of the data's.
func (b *bench) byte(at uint64) *byte {
	page := slices.IndexFunc(b.pages, func(p api.Page) bool { return p.Base == rt.DataBase }) + int(at-rt.DataBase)/api.PageSize
	return &b.pages[page].Bytes[at%api.PageSize]
}

// write puts a byte in each of so many of the data's bytes from an address on.
func (b *bench) write(at uint64, count int, v byte) {
	for k := range count {
		*b.byte(at + uint64(k)) = v
	}
}
