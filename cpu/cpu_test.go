package cpu

import (
	"bytes"
	"math"
	"reflect"
	"testing"

	"patina/api"
	"patina/mem"
	"patina/rv"
)

const (
	codeAt = 4096
	dataAt = 8192 // two pages that may be read and written, then one that may be read, one that may be written, nothing
	size   = api.PageSize
)

// page is a page of which the first bytes are told.
func page(base uint64, perm int, b ...byte) api.Page {
	l := make([]byte, size)
	copy(l, b)
	return api.Page{Base: base, Perm: perm, Bytes: l}
}

// code is the page at codeAt, with instructions.
func code(t *testing.T, l ...api.Instr) api.Page {
	t.Helper()
	var b []byte
	for _, i := range l {
		w, e := rv.Encode(i)
		if e != api.OK {
			t.Fatal(i, e)
		}
		b = append(b, byte(w), byte(w>>8), byte(w>>16), byte(w>>24))
	}
	return page(codeAt, api.PermRead+api.PermExec, b...)
}

// data are pages from dataAt on, no two bytes near one another the same.
func data() []api.Page {
	var l []api.Page
	for k, perm := range []int{6, 6, 4, 2} {
		p := page(dataAt+uint64(k)*size, perm)
		for i := range p.Bytes {
			p.Bytes[i] = byte(0x70 + 37*i + 11*k)
		}
		l = append(l, p)
	}
	return l
}

func made(t *testing.T, c api.Cpu, in []byte, pages ...api.Page) *Machine {
	t.Helper()
	m, e := New(c, pages, in)
	if e != api.OK || m == nil {
		t.Fatal(m, e)
	}
	return m
}

// began is a machine at codeAt with instructions, data and registers.
func began(t *testing.T, regs [32]uint64, l ...api.Instr) *Machine {
	t.Helper()
	return made(t, api.Cpu{PC: codeAt, Regs: regs}, nil, append([]api.Page{code(t, l...)}, data()...)...)
}

// sameState tells whether two states are the same; an Out may be nil or empty (R2).
func sameState(a, b api.Cpu) bool {
	out := bytes.Equal(a.Out, b.Out)
	a.Out, b.Out = nil, nil
	return out && reflect.DeepEqual(a, b)
}

func samePages(a, b []api.Page) bool {
	return len(a) == len(b) && (len(a) == 0 || reflect.DeepEqual(a, b))
}

// want holds a machine to a state and pages.
func want(t *testing.T, what string, m *Machine, c api.Cpu, pages []api.Page) {
	t.Helper()
	if s := m.State(); !sameState(s, c) {
		t.Errorf("%s: state %v, not %v", what, s, c)
	}
	if !samePages(m.Pages(), pages) {
		t.Errorf("%s: pages", what)
	}
}

func full() api.Cpu {
	c := api.Cpu{PC: codeAt, Steps: 12, Code: 7, Out: []byte("abc"), In: 2}
	for k := range c.Regs {
		c.Regs[k] = uint64(k) * 0x0102030405060708
	}
	return c
}

// 3.1, 3.3: a machine has the state, pages and input that it was given.
func TestNewKeepsAll(t *testing.T) {
	for _, change := range []func(c *api.Cpu){
		func(c *api.Cpu) {},
		func(c *api.Cpu) { *c = api.Cpu{} },
		func(c *api.Cpu) { c.Steps = 0 },
		func(c *api.Cpu) { c.Steps = math.MaxInt },
		func(c *api.Cpu) { c.Code = 0 },
		func(c *api.Cpu) { c.Code = 255 },
		func(c *api.Cpu) { c.In = 0 },
		func(c *api.Cpu) { c.In = 5 },
		func(c *api.Cpu) { c.Halted = true },
		func(c *api.Cpu) { c.Fault = api.FaultFetch },
		func(c *api.Cpu) { c.Fault = api.FaultWord },
		func(c *api.Cpu) { c.Fault = api.FaultLoad },
		func(c *api.Cpu) { c.Fault = api.FaultStore },
		func(c *api.Cpu) { c.Fault = api.FaultCall },
		func(c *api.Cpu) { c.Fault, c.Halted = api.FaultCall, true },
		func(c *api.Cpu) { c.PC = all },
		func(c *api.Cpu) { c.Out = nil },
	} {
		c := full()
		change(&c)
		for _, l := range [][]api.Page{nil, data(), {page(0, 1), page(1<<48-size, 5)}} {
			want(t, "New", made(t, c, []byte("input"), l...), c, l)
		}
	}
}

// 3.1: states that are not right are told ahead of pages that are not.
func TestNewOfWrongStates(t *testing.T) {
	wrong := []func(c *api.Cpu){
		func(c *api.Cpu) { c.Regs[0] = 1 },
		func(c *api.Cpu) { c.Regs[0] = all },
		func(c *api.Cpu) { c.Steps = -1 },
		func(c *api.Cpu) { c.Steps = math.MinInt },
		func(c *api.Cpu) { c.Code = -1 },
		func(c *api.Cpu) { c.Code = 256 },
		func(c *api.Cpu) { c.In = -1 },
		func(c *api.Cpu) { c.In = 6 },
		func(c *api.Cpu) { c.In = math.MaxInt },
		func(c *api.Cpu) { c.In = 6; c.Halted = true },
	}
	for _, f := range []api.Errno{-1, 1, 2, 9, 10, 21, 29, 35, 40, 130, math.MinInt, math.MaxInt} {
		wrong = append(wrong, func(c *api.Cpu) { c.Fault = f })
	}
	for k, change := range wrong {
		c := full()
		change(&c)
		for _, l := range [][]api.Page{nil, data(), {{Base: 1}}, {page(0, 3)}} {
			if m, e := New(c, l, []byte("input")); m != nil || e != api.ErrArg {
				t.Errorf("%d: %v, %v", k, m, e)
			}
		}
	}
	if m, e := New(api.Cpu{In: 1}, nil, nil); m != nil || e != api.ErrArg {
		t.Errorf("In of no input: %v, %v", m, e)
	}
}

// 3.1: pages that are not right: mem's error.
func TestNewOfWrongPages(t *testing.T) {
	many := make([]api.Page, api.MaxPages+1)
	for k := range many {
		many[k] = page(uint64(k)*size, 4)
	}
	for k, c := range []struct {
		l    []api.Page
		want api.Errno
	}{
		{many, api.ErrPage},
		{[]api.Page{page(1, 4)}, api.ErrPage},
		{[]api.Page{page(1<<48, 4)}, api.ErrPage},
		{[]api.Page{page(4096, 4), page(4096, 4)}, api.ErrPage},
		{[]api.Page{page(8192, 4), page(4096, 4)}, api.ErrPage},
		{[]api.Page{{Base: 0, Perm: 4, Bytes: make([]byte, size-1)}}, api.ErrPage},
		{[]api.Page{{Base: 0, Perm: 4, Bytes: make([]byte, size+1)}}, api.ErrPage},
		{[]api.Page{page(0, 0)}, api.ErrPerm},
		{[]api.Page{page(0, 3)}, api.ErrPerm},
		{[]api.Page{page(0, 7)}, api.ErrPerm},
		{[]api.Page{page(0, 8)}, api.ErrPerm},
		{[]api.Page{page(0, -1)}, api.ErrPerm},
		{[]api.Page{page(0, 4), page(1, 0)}, api.ErrPage},
		{[]api.Page{page(0, 0), page(1, 4)}, api.ErrPerm},
	} {
		if m, e := New(api.Cpu{}, c.l, nil); m != nil || e != c.want {
			t.Errorf("%d: %v, %v", k, m, e)
		}
		if _, e := mem.From(c.l); e != c.want {
			t.Errorf("%d: mem tells %v", k, e)
		}
	}
	made(t, api.Cpu{}, nil, many[:api.MaxPages]...)
}

// The chapter's second example.
func TestExample(t *testing.T) {
	m := began(t, [32]uint64{}, api.Instr{Op: api.OpAddi, Rd: 10, Imm: 7}, api.Instr{Op: api.OpAddi, Rd: 17, Imm: 93}, api.Instr{Op: api.OpEcall})
	pages := m.Pages()
	if n := m.Run(9); n != 3 {
		t.Error(n)
	}
	want(t, "halted", m, api.Cpu{PC: codeAt + 12, Regs: [32]uint64{10: 7, 17: 93}, Steps: 3, Halted: true, Code: 7}, pages)
}

// 3.2: what each kind of instruction does to the registers and to PC; all else but Steps stays.
func TestInstructions(t *testing.T) {
	const a, b, rd = 11, 12, 5
	regs := [32]uint64{1: 99, a: dataAt, b: mixed}
	for _, c := range []struct {
		i    api.Instr
		want uint64 // of rd, or of no register
		next uint64
	}{
		{api.Instr{Op: api.OpLui, Rd: rd, Imm: 1}, 4096, 4},
		{api.Instr{Op: api.OpLui, Rd: rd, Imm: -1}, all - 4095, 4},
		{api.Instr{Op: api.OpLui, Rd: rd, Imm: -524288}, least4, 4},
		{api.Instr{Op: api.OpLui, Rd: rd, Imm: 524287}, 0x7ffff000, 4},
		{api.Instr{Op: api.OpAuipc, Rd: rd, Imm: 1}, codeAt + 4096, 4},
		{api.Instr{Op: api.OpAuipc, Rd: rd, Imm: 0}, codeAt, 4},
		{api.Instr{Op: api.OpAuipc, Rd: rd, Imm: -2}, all - 4095, 4},
		{api.Instr{Op: api.OpJal, Rd: rd, Imm: 2048}, codeAt + 4, 2048},
		{api.Instr{Op: api.OpJal, Rd: rd, Imm: -2}, codeAt + 4, all - 1},
		{api.Instr{Op: api.OpJal, Rd: rd, Imm: 0}, codeAt + 4, 0},
		{api.Instr{Op: api.OpJalr, Rd: rd, Rs1: a, Imm: 8}, codeAt + 4, 4104},
		{api.Instr{Op: api.OpJalr, Rd: rd, Rs1: a, Imm: -1}, codeAt + 4, 4094},
		{api.Instr{Op: api.OpJalr, Rd: rd, Rs1: a, Imm: 3}, codeAt + 4, 4098},
		{api.Instr{Op: api.OpJalr, Rd: rd, Rs1: 0, Imm: -4}, codeAt + 4, all - 3 - codeAt},
		{api.Instr{Op: api.OpBeq, Rs1: a, Rs2: a, Imm: 4094}, 0, 4094},
		{api.Instr{Op: api.OpBeq, Rs1: a, Rs2: b, Imm: 4094}, 0, 4},
		{api.Instr{Op: api.OpBne, Rs1: a, Rs2: b, Imm: -4096}, 0, all - 4095},
		{api.Instr{Op: api.OpBne, Rs1: a, Rs2: a, Imm: -4096}, 0, 4},
		{api.Instr{Op: api.OpBlt, Rs1: b, Rs2: a, Imm: 8}, 0, 8},
		{api.Instr{Op: api.OpBlt, Rs1: a, Rs2: b, Imm: 8}, 0, 4},
		{api.Instr{Op: api.OpBge, Rs1: a, Rs2: b, Imm: 0}, 0, 0},
		{api.Instr{Op: api.OpBge, Rs1: b, Rs2: a, Imm: 0}, 0, 4},
		{api.Instr{Op: api.OpBltu, Rs1: a, Rs2: b, Imm: 8}, 0, 8},
		{api.Instr{Op: api.OpBltu, Rs1: b, Rs2: a, Imm: 8}, 0, 4},
		{api.Instr{Op: api.OpBgeu, Rs1: b, Rs2: a, Imm: 8}, 0, 8},
		{api.Instr{Op: api.OpBgeu, Rs1: a, Rs2: b, Imm: 8}, 0, 4},
		{api.Instr{Op: api.OpLb, Rd: rd, Rs1: a, Imm: 0}, 0x70, 4},
		{api.Instr{Op: api.OpLb, Rd: rd, Rs1: a, Imm: 1}, 0xffffffffffffff95, 4},
		{api.Instr{Op: api.OpLbu, Rd: rd, Rs1: a, Imm: 1}, 0x95, 4},
		{api.Instr{Op: api.OpLh, Rd: rd, Rs1: a, Imm: 0}, 0xffffffffffff9570, 4},
		{api.Instr{Op: api.OpLh, Rd: rd, Rs1: a, Imm: 3}, 0x04df, 4},
		{api.Instr{Op: api.OpLhu, Rd: rd, Rs1: a, Imm: 0}, 0x9570, 4},
		{api.Instr{Op: api.OpLw, Rd: rd, Rs1: a, Imm: 0}, 0xffffffffdfba9570, 4},
		{api.Instr{Op: api.OpLw, Rd: rd, Rs1: a, Imm: 1}, 0x04dfba95, 4},
		{api.Instr{Op: api.OpLwu, Rd: rd, Rs1: a, Imm: 0}, 0xdfba9570, 4},
		{api.Instr{Op: api.OpLd, Rd: rd, Rs1: a, Imm: 0}, 0x734e2904dfba9570, 4},
		{api.Instr{Op: api.OpLwu, Rd: rd, Rs1: a, Imm: -4}, 0, 4}, // the end of the code
		{api.Instr{Op: api.OpAddi, Rd: rd, Rs1: a, Imm: -2048}, 6144, 4},
		{api.Instr{Op: api.OpAdd, Rd: rd, Rs1: a, Rs2: b}, mixed + dataAt, 4},
		{api.Instr{Op: api.OpSub, Rd: rd, Rs1: b, Rs2: a}, mixed - dataAt, 4},
		{api.Instr{Op: api.OpSltiu, Rd: rd, Rs1: a, Imm: -1}, 1, 4},
		{api.Instr{Op: api.OpSrai, Rd: rd, Rs1: b, Imm: 60}, all - 7, 4},
		{api.Instr{Op: api.OpSraiw, Rd: rd, Rs1: b, Imm: 28}, all, 4},
		{api.Instr{Op: api.OpAddiw, Rd: rd, Rs1: b, Imm: 0}, 0xfffffffff1234567, 4},
		{api.Instr{Op: api.OpMulw, Rd: rd, Rs1: b, Rs2: a}, 0x68ace000, 4},
		{api.Instr{Op: api.OpRemuw, Rd: rd, Rs1: b, Rs2: a}, 0x567, 4},
		{api.Instr{Op: api.OpDiv, Rd: rd, Rs1: a, Rs2: 0}, all, 4},
		{api.Instr{Op: api.OpFence}, 0, 4},
	} {
		m := began(t, regs, c.i)
		pages := m.Pages()
		state := m.State()
		state.PC, state.Steps = codeAt+c.next, 1
		state.Regs[c.i.Rd] = c.want
		if e := m.Step(); e != api.OK {
			t.Errorf("%v: %v", c.i, e)
		}
		want(t, rv.Name(c.i.Op), m, state, pages)
	}
}

// 3.2: a register that is read and written in one instruction is read first.
func TestSameRegister(t *testing.T) {
	m := began(t, [32]uint64{5: codeAt + 9}, api.Instr{Op: api.OpJalr, Rd: 5, Rs1: 5, Imm: 4})
	m.Step()
	if c := m.State(); c.PC != codeAt+12 || c.Regs[5] != codeAt+4 {
		t.Error("jalr", c)
	}
	m = began(t, [32]uint64{5: dataAt}, api.Instr{Op: api.OpLbu, Rd: 5, Rs1: 5})
	m.Step()
	if c := m.State(); c.Regs[5] != 0x70 {
		t.Error("lbu", c)
	}
	m = began(t, [32]uint64{5: 3}, api.Instr{Op: api.OpMul, Rd: 5, Rs1: 5, Rs2: 5})
	m.Step()
	if c := m.State(); c.Regs[5] != 9 {
		t.Error("mul", c)
	}
}

// 3.5: register 0 stays 0, whatever has it as Rd; the rest of the instruction is done.
func TestRegisterZero(t *testing.T) {
	for op := api.OpLui; op <= api.OpRemuw; op++ {
		i := api.Instr{Op: op, Rs1: 11, Rs2: 12, Imm: 8}
		switch op {
		case api.OpLui, api.OpAuipc, api.OpJal:
			i.Rs1, i.Rs2 = 0, 0
		default:
			if op >= api.OpAdd {
				i.Imm = 0
			} else if op < api.OpBeq || op > api.OpBgeu && op < api.OpSb || op > api.OpSd {
				i.Rs2 = 0
			}
		}
		m := began(t, [32]uint64{11: dataAt + 1, 12: 3}, i)
		regs := m.State().Regs
		if e := m.Step(); e != api.OK || m.State().Regs != regs || m.State().Steps != 1 {
			t.Errorf("%s: %v, %v", rv.Name(op), e, m.State())
		}
	}
}

// 3.2, 3.5: a store writes the lowest bytes, and no others; across pages too.
func TestStores(t *testing.T) {
	for op, n := range map[int]int{api.OpSb: 1, api.OpSh: 2, api.OpSw: 4, api.OpSd: 8} {
		for at := uint64(dataAt + size - 9); at < dataAt+size+9; at++ {
			m := began(t, [32]uint64{11: at + 5, 12: mixed}, api.Instr{Op: op, Rs1: 11, Rs2: 12, Imm: -5})
			pages, state := m.Pages(), m.State()
			state.PC, state.Steps = codeAt+4, 1
			for i := range n {
				place := at + uint64(i) - codeAt
				pages[place/size].Bytes[place%size] = byte(uint64(mixed) >> (8 * i))
			}
			if e := m.Step(); e != api.OK {
				t.Errorf("%s at %d: %v", rv.Name(op), at, e)
			}
			want(t, rv.Name(op), m, state, pages)
		}
	}
}

// 3.2: each fault; it is kept, and changes nothing else.
func TestFaults(t *testing.T) {
	const a, b = 11, 17
	ecall := api.Instr{Op: api.OpEcall}
	load := func(op int, n int64) api.Instr { return api.Instr{Op: op, Rd: 5, Rs1: a, Imm: n} }
	store := func(op int, n int64) api.Instr { return api.Instr{Op: op, Rs1: a, Rs2: b, Imm: n} }
	const last = dataAt + 4*size // behind the last page
	for _, c := range []struct {
		what string
		pc   uint64
		i    api.Instr
		a, b uint64
		want api.Errno
	}{
		{"no multiple of 4", codeAt + 2, ecall, 0, 0, api.FaultFetch},
		{"no multiple of 2", codeAt + 1, ecall, 0, 0, api.FaultFetch},
		{"no page", 0, ecall, 0, 0, api.FaultFetch},
		{"behind the last page", last, ecall, 0, 0, api.FaultFetch},
		{"a page that may be read", dataAt, ecall, 0, 0, api.FaultFetch},
		{"at 2^48", 1 << 48, ecall, 0, 0, api.FaultFetch},
		{"at 2^64 - 4", all - 3, ecall, 0, 0, api.FaultFetch},
		{"codeAt and 2^48", 1<<48 + codeAt, ecall, 0, 0, api.FaultFetch},
		{"a word 0", codeAt + 4, ecall, 0, 0, api.FaultWord},
		{"no page", codeAt, load(api.OpLb, 0), 0, 0, api.FaultLoad},
		{"no page", codeAt, load(api.OpLd, 0), last, 0, api.FaultLoad},
		{"at 2^64 - 1", codeAt, load(api.OpLbu, -1), 0, 0, api.FaultLoad},
		{"at 2^48", codeAt, load(api.OpLh, 0), 1 << 48, 0, api.FaultLoad},
		{"across 2^48", codeAt, load(api.OpLd, -4), 1 << 48, 0, api.FaultLoad},
		{"no PermRead", codeAt, load(api.OpLwu, 0), last - size, 0, api.FaultLoad},
		{"no PermRead on the second page", codeAt, load(api.OpLw, -3), last - size, 0, api.FaultLoad},
		{"to register 0", codeAt, api.Instr{Op: api.OpLd, Rs1: a}, 0, 0, api.FaultLoad},
		{"no page", codeAt, store(api.OpSb, 0), 0, 0, api.FaultStore},
		{"behind the last page", codeAt, store(api.OpSd, -7), last, 0, api.FaultStore},
		{"at 2^64 - 8", codeAt, store(api.OpSd, -8), 0, 0, api.FaultStore},
		{"at 2^48", codeAt, store(api.OpSh, 0), 1 << 48, 0, api.FaultStore},
		{"no PermWrite", codeAt, store(api.OpSw, 0), dataAt + 2*size, 0, api.FaultStore},
		{"no PermWrite on the second page", codeAt, store(api.OpSd, -4), dataAt + 2*size, mixed, api.FaultStore},
		{"no PermWrite on the first page", codeAt, store(api.OpSd, -4), dataAt + 3*size, mixed, api.FaultStore},
		{"of the code", codeAt, store(api.OpSb, 0), codeAt, 0, api.FaultStore},
		{"ebreak", codeAt, api.Instr{Op: api.OpEbreak}, 0, 93, api.FaultCall},
		{"call 0", codeAt, ecall, 0, 0, api.FaultCall},
		{"call 1", codeAt, ecall, 0, 1, api.FaultCall},
		{"call 62", codeAt, ecall, 0, 62, api.FaultCall},
		{"call 65", codeAt, ecall, 0, 65, api.FaultCall},
		{"call 92", codeAt, ecall, 0, 92, api.FaultCall},
		{"call 94", codeAt, ecall, 0, 94, api.FaultCall},
		{"call 63 and 2^32", codeAt, ecall, 0, half + 63, api.FaultCall},
		{"call 64 and 256", codeAt, ecall, 0, 256 + 64, api.FaultCall},
		{"call 93 and 2^63", codeAt, ecall, 0, least + 93, api.FaultCall},
		{"call -1", codeAt, ecall, 0, all, api.FaultCall},
	} {
		state := full()
		state.PC, state.Regs[a], state.Regs[b] = c.pc, c.a, c.b
		pages := append([]api.Page{code(t, c.i)}, data()...)
		m := made(t, state, []byte("input"), pages...)
		if e := m.Step(); e != c.want {
			t.Errorf("%s: %v, not %v", c.what, e, c.want)
		}
		state.Fault = c.want
		want(t, c.what, m, state, pages)
		for range 2 {
			if e, n := m.Step(), m.Run(5); e != c.want || n != 0 {
				t.Errorf("%s, then: %v, %d", c.what, e, n)
			}
		}
		want(t, c.what+", then", m, state, pages)
		again := state
		again.Fault = api.OK
		m = made(t, again, []byte("input"), pages...)
		if n := m.Run(5); n != 0 {
			t.Errorf("%s: Run counts a fault: %d", c.what, n)
		}
		want(t, c.what+", by Run", m, state, pages)
	}
}

// 3.2: ecall reads the input byte by byte, and all bits behind its end.
func TestRead(t *testing.T) {
	in := []byte{0, 255, 10, 128}
	for from := range len(in) + 1 {
		state := full()
		state.Regs[17], state.In = 63, from
		pages := []api.Page{code(t, api.Instr{Op: api.OpEcall}, api.Instr{Op: api.OpJal, Imm: -4})}
		m := made(t, state, in, pages...)
		for k := from; k < len(in)+2; k++ {
			state.Regs[10] = all
			if k < len(in) {
				state.Regs[10] = uint64(in[k])
				state.In++
			}
			state.PC = codeAt + 4
			state.Steps++
			if e := m.Step(); e != api.OK {
				t.Error("read", e)
			}
			want(t, "read", m, state, pages)
			m.Step()
			state.PC = codeAt
			state.Steps++
		}
	}
}

// 3.2: ecall writes the lowest byte behind what was written.
func TestWrite(t *testing.T) {
	state := full()
	state.Regs[17] = 64
	pages := []api.Page{code(t, api.Instr{Op: api.OpEcall}, api.Instr{Op: api.OpAddi, Rd: 10, Rs1: 10, Imm: 255}, api.Instr{Op: api.OpEcall})}
	state.Regs[10] = 0xabcdef0000000141
	m := made(t, state, []byte("input"), pages...)
	if e := m.Step(); e != api.OK {
		t.Error(e)
	}
	state.PC, state.Steps, state.Out = codeAt+4, 13, []byte("abcA")
	want(t, "write", m, state, pages)
	m.Run(2)
	state.PC, state.Steps, state.Out, state.Regs[10] = codeAt+12, 15, []byte("abcA\x40"), 0xabcdef0000000240
	want(t, "write", m, state, pages)
}

// 3.2: ecall halts with the lowest 8 bits as Code; the step counts, and PC goes on; nothing changes any more.
func TestHalt(t *testing.T) {
	for _, c := range [][2]uint64{{0, 0}, {255, 255}, {256, 0}, {all, 255}, {0xffffffff00000107, 7}} {
		state := full()
		state.Regs[17], state.Regs[10] = 93, c[0]
		pages := []api.Page{code(t, api.Instr{Op: api.OpEcall}, api.Instr{Op: api.OpAddi, Rd: 1, Imm: 1})}
		m := made(t, state, []byte("input"), pages...)
		if e := m.Step(); e != api.OK {
			t.Error(e)
		}
		state.PC, state.Steps, state.Halted, state.Code = codeAt+4, 13, true, int(c[1])
		want(t, "halt", m, state, pages)
		if e, n := m.Step(), m.Run(5); e != api.OK || n != 0 {
			t.Error("of one that halted", e, n)
		}
		want(t, "halted", m, state, pages)
	}
}

// 3.2, 3.5: a machine that is over from the beginning stays as it is.
func TestOver(t *testing.T) {
	for _, c := range []struct {
		halted bool
		fault  api.Errno
		want   api.Errno
	}{
		{true, api.OK, api.OK}, {false, api.FaultFetch, api.FaultFetch}, {false, api.FaultWord, api.FaultWord}, {false, api.FaultLoad, api.FaultLoad},
		{false, api.FaultStore, api.FaultStore}, {false, api.FaultCall, api.FaultCall}, {true, api.FaultLoad, api.OK},
	} {
		state := full()
		state.Halted, state.Fault = c.halted, c.fault
		pages := []api.Page{code(t, api.Instr{Op: api.OpAddi, Rd: 1, Imm: 1})}
		m := made(t, state, []byte("input"), pages...)
		for range 3 {
			if e, n := m.Step(), m.Run(7); e != c.want || n != 0 {
				t.Error(c, e, n)
			}
		}
		want(t, "over", m, state, pages)
	}
}

// 3.1, P1: a nil machine is over and keeps nothing; one that New did not make has no pages.
func TestNilAndZero(t *testing.T) {
	var none *Machine
	for range 2 {
		if n := none.Run(3); n != 0 {
			t.Error("Run", n)
		}
		if e := none.Step(); e != api.FaultFetch {
			t.Error("Step", e)
		}
		want(t, "nil", none, api.Cpu{}, nil)
	}
	zero := &Machine{}
	want(t, "zero", zero, api.Cpu{}, nil)
	if n, e := zero.Run(3), zero.Step(); n != 0 || e != api.FaultFetch {
		t.Error("zero", n, e)
	}
	empty := made(t, api.Cpu{}, nil)
	if e := empty.Step(); e != api.FaultFetch || empty.State().Fault != api.FaultFetch {
		t.Error("without pages", e)
	}
}

// counter counts in register 1, prints it, and halts behind its 50th round: 4 instructions a round.
func counter(t *testing.T) *Machine {
	return made(t, api.Cpu{PC: codeAt, Regs: [32]uint64{2: 50, 17: 64}}, nil, code(t,
		api.Instr{Op: api.OpAddi, Rd: 1, Rs1: 1, Imm: 1},
		api.Instr{Op: api.OpAddi, Rd: 10, Rs1: 1},
		api.Instr{Op: api.OpEcall},
		api.Instr{Op: api.OpBlt, Rs1: 1, Rs2: 2, Imm: -12},
		api.Instr{Op: api.OpAddi, Rd: 17, Imm: 93},
		api.Instr{Op: api.OpEcall}))
}

// 3.2, 3.5: Run does so many steps; of n and then of m it is Run of n + m.
func TestRunInParts(t *testing.T) {
	const whole = 50*4 + 2
	for _, n := range []int{math.MinInt, -1, 0, 1, 2, 3, 99, 100, whole - 1, whole, whole + 1, math.MaxInt} {
		one := counter(t)
		for range 7 {
			one.Run(-5)
			one.Run(0)
		}
		done := one.Run(n)
		if done != max(0, min(n, whole)) || one.State().Steps != done {
			t.Error("Run", n, done, one.State().Steps)
		}
		for part := range max(0, min(n, whole)) {
			two := counter(t)
			a := two.Run(part)
			if b := two.Run(n - part); a+b != done {
				t.Error("Run", part, a, n-part, b)
			}
			if !sameState(two.State(), one.State()) {
				t.Error("Run of parts", part, n)
			}
		}
	}
	m := counter(t)
	for k := range whole {
		if m.State().Halted || m.Step() != api.OK || m.State().Steps != k+1 {
			t.Error("Step", k)
		}
	}
	if !m.State().Halted || m.State().Code != 50 || len(m.State().Out) != 50 {
		t.Error("counted", m.State())
	}
}

// scribble writes over a list and its spare room.
func scribble(b []byte) {
	for i := range b[:cap(b)] {
		b[:cap(b)][i] ^= 0xff
	}
}

// R3: nothing is shared with what New was given, nor with what State and Pages answered; spare room neither.
func TestNothingIsShared(t *testing.T) {
	c := full()
	out := make([]byte, 3, 64)
	copy(out, "abc")
	c.Out = out
	c.Regs[10], c.Regs[17] = 'x', 64
	in := make([]byte, 5, 64)
	copy(in, "input")
	given := append([]api.Page{code(t, api.Instr{Op: api.OpEcall}, api.Instr{Op: api.OpAddi, Rd: 17, Imm: 63}, api.Instr{Op: api.OpEcall})}, data()...)
	kept := append([]api.Page{code(t, api.Instr{Op: api.OpEcall}, api.Instr{Op: api.OpAddi, Rd: 17, Imm: 63}, api.Instr{Op: api.OpEcall})}, data()...)
	m := made(t, c, in, given...)
	twin := made(t, c, in, given...)
	m.Step()
	if !samePages(given, kept) || string(out[:64]) != "abc"+string(make([]byte, 61)) || string(in) != "input" {
		t.Error("what was given has changed")
	}
	scribble(out)
	scribble(in)
	for _, p := range given {
		scribble(p.Bytes)
	}
	first, pages := m.State(), m.Pages()
	if string(first.Out) != "abcx" || !samePages(pages, kept) {
		t.Error("what was given is kept", first.Out)
	}
	second := m.State()
	scribble(first.Out)
	for _, p := range pages {
		scribble(p.Bytes)
	}
	if string(second.Out) != "abcx" || string(m.State().Out) != "abcx" || !samePages(m.Pages(), kept) {
		t.Error("an answer is shared", second.Out, m.State().Out)
	}
	m.Run(2)
	if m.State().Regs[10] != 'p' {
		t.Error("the input is shared", m.State().Regs[10])
	}
	twin.Step()
	if string(twin.State().Out) != "abcx" || !samePages(twin.Pages(), kept) {
		t.Error("two machines share", twin.State().Out)
	}
}
