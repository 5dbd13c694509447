package cpu

import (
	"bytes"
	"math/rand"
	"strings"
	"testing"

	"patina/api"
	"patina/rv"
)

// model is a machine as the chapter tells it: bytes one by one, instructions by their names.
type model struct {
	c     api.Cpu
	perms map[uint64]int // by the number of a page
	pages map[uint64][]byte
	in    []byte
}

func modelOf(c api.Cpu, pages []api.Page, in []byte) *model {
	m := &model{c: c, perms: map[uint64]int{}, pages: map[uint64][]byte{}, in: in}
	for _, p := range pages {
		m.perms[p.Base/size] = p.Perm
		m.pages[p.Base/size] = bytes.Clone(p.Bytes)
	}
	return m
}

// byteAt is a byte that is there; of others, one that nobody looks at.
func (m *model) byteAt(at uint64) *byte {
	if p := m.pages[at/size]; p != nil {
		return &p[at%size]
	}
	return new(byte)
}

// may tells whether n bytes may be used so.
func (m *model) may(at, n uint64, perm int) bool {
	for i := range n {
		if at >= 1<<48 || m.perms[(at+i)/size]&perm == 0 {
			return false
		}
	}
	return true
}

func (m *model) number(at, n uint64) uint64 {
	v := uint64(0)
	for i := range n {
		v += uint64(*m.byteAt(at + i)) << (8 * i)
	}
	return v
}

func (m *model) step() api.Errno {
	c := &m.c
	if c.PC%4 != 0 || !m.may(c.PC, 4, api.PermExec) {
		return api.FaultFetch
	}
	i, e := rv.Decode(uint32(m.number(c.PC, 4)))
	if e != api.OK {
		return api.FaultWord
	}
	next, e := m.do(i)
	if e != api.OK {
		return e
	}
	c.Regs[0] = 0
	c.PC = next
	c.Steps++
	return api.OK
}

// do does an instruction: where PC goes, or the fault.
func (m *model) do(i api.Instr) (uint64, api.Errno) {
	c := &m.c
	next := c.PC + 4
	name, a, b, n := rv.Name(i.Op), c.Regs[i.Rs1], c.Regs[i.Rs2], uint64(i.Imm)
	switch {
	case name == "lui":
		c.Regs[i.Rd] = n * 4096
	case name == "auipc":
		c.Regs[i.Rd] = c.PC + n*4096
	case name == "jal":
		c.Regs[i.Rd] = next
		next = c.PC + n
	case name == "jalr":
		c.Regs[i.Rd] = next
		next = (a + n) / 2 * 2
	case strings.HasPrefix(name, "b"):
		s, u := cut(a, 64, true).Cmp(cut(b, 64, true)), cut(a, 64, false).Cmp(cut(b, 64, false))
		if map[string]bool{"beq": u == 0, "bne": u != 0, "blt": s < 0, "bge": s >= 0, "bltu": u < 0, "bgeu": u >= 0}[name] {
			next = c.PC + n
		}
	case strings.HasPrefix(name, "l"):
		bits := map[byte]uint64{'b': 8, 'h': 16, 'w': 32, 'd': 64}[name[1]]
		if !m.may(a+n, bits/8, api.PermRead) {
			return 0, api.FaultLoad
		}
		c.Regs[i.Rd] = low(cut(m.number(a+n, bits/8), uint(bits), len(name) == 2))
	case len(name) == 2 && name != "or":
		count := map[byte]uint64{'b': 1, 'h': 2, 'w': 4, 'd': 8}[name[1]]
		if !m.may(a+n, count, api.PermWrite) {
			return 0, api.FaultStore
		}
		for k := range count {
			*m.byteAt(a + n + k) = byte(b >> (8 * k))
		}
	case name == "fence":
	case name == "ecall":
		return next, m.call()
	case name == "ebreak":
		return 0, api.FaultCall
	default:
		if strings.HasSuffix(strings.TrimRight(name, "uw"), "i") {
			b = n
		}
		c.Regs[i.Rd] = told(name, a, b)
	}
	return next, api.OK
}

func (m *model) call() api.Errno {
	c := &m.c
	switch c.Regs[17] {
	case 63:
		if c.In == len(m.in) {
			c.Regs[10] = all
			return api.OK
		}
		c.Regs[10] = uint64(m.in[c.In])
		c.In++
	case 64:
		c.Out = append(c.Out, byte(c.Regs[10]%256))
	case 93:
		c.Halted, c.Code = true, int(c.Regs[10]%256)
	default:
		return api.FaultCall
	}
	return api.OK
}

// samePages tells whether a machine's pages are the model's.
func (m *model) samePages(l []api.Page) bool {
	if len(l) != len(m.perms) {
		return false
	}
	for _, p := range l {
		if p.Perm != m.perms[p.Base/size] || !bytes.Equal(p.Bytes, m.pages[p.Base/size]) {
			return false
		}
	}
	return true
}

// anyInstr is an instruction at random; ecall, ebreak and words that are none among them, but not often.
func anyInstr(r *rand.Rand) uint32 {
	for {
		i := api.Instr{Op: 1 + r.Intn(64), Rd: r.Intn(32), Rs1: r.Intn(32), Rs2: r.Intn(32), Imm: int64(r.Intn(64)-8) * 4}
		switch r.Intn(8) {
		case 0:
			i.Imm = int64(r.Intn(4096) - 2048)
		case 1, 2:
			i.Imm = int64(r.Intn(9) - 4)
		}
		if r.Intn(400) == 0 {
			return r.Uint32()
		}
		if r.Intn(400) == 0 {
			i = api.Instr{Op: api.OpEbreak}
		}
		for range 3 { // a form has not all of them
			if w, e := rv.Encode(i); e == api.OK {
				return w
			}
			if i.Op >= api.OpFence {
				i = api.Instr{Op: i.Op}
			} else if i.Op >= api.OpAdd {
				i.Imm = 0
			} else if i.Op < api.OpJalr {
				i.Rs1, i.Rs2 = 0, 0
			} else if i.Op >= api.OpBeq && i.Op <= api.OpBgeu || i.Op >= api.OpSb && i.Op <= api.OpSd {
				i.Rd = 0
			} else {
				i.Rs2 = 0
			}
		}
	}
}

// anyRegs are registers at random: places near the ends of pages, numbers that may matter, calls.
func anyRegs(r *rand.Rand) [32]uint64 {
	var l [32]uint64
	some := someNumbers()
	for k := 1; k < 32; k++ {
		switch r.Intn(3) {
		case 0:
			l[k] = some[r.Intn(len(some))]
		default:
			l[k] = dataAt + uint64(r.Intn(5))*size + uint64(r.Intn(40)) - 20
		}
	}
	l[17] = []uint64{63, 64, 93, 64, 63, r.Uint64(), uint64(r.Intn(128))}[r.Intn(7)]
	return l
}

// 3.2 to 3.5: programs at random do, step by step, what the chapter says; each operation and each fault is met.
func TestAgainstModel(t *testing.T) {
	r := rand.New(rand.NewSource(7))
	done, faults, halts := map[int]int{}, map[api.Errno]int{}, 0
	for run := range 2500 {
		var words []byte
		for range size / 4 {
			w := anyInstr(r)
			words = append(words, byte(w), byte(w>>8), byte(w>>16), byte(w>>24))
		}
		pages := append([]api.Page{page(codeAt, 5, words...)}, data()...)
		c := api.Cpu{PC: codeAt + 4*uint64(r.Intn(size/4)), Regs: anyRegs(r), Out: []byte("old")}
		in := []byte{200, 7}
		m, o := made(t, c, in, pages...), modelOf(c, pages, in)
		for k := range 40 {
			i, _ := rv.Decode(uint32(o.number(o.c.PC, 4)))
			want := o.step()
			o.c.Fault = want
			if got := m.Step(); got != want || !sameState(m.State(), o.c) {
				t.Fatalf("run %d, step %d, %v: %v, not %v; %v, not %v", run, k, i, got, want, m.State(), o.c)
			}
			if want != api.OK || o.c.Halted {
				faults[want]++
				break
			}
			done[i.Op]++
		}
		if o.c.Halted {
			halts++
		}
		if !o.samePages(m.Pages()) {
			t.Fatalf("run %d: pages", run)
		}
	}
	for op := api.OpLui; op < api.OpEbreak; op++ {
		if done[op] < 20 {
			t.Errorf("%s was done %d times alone", rv.Name(op), done[op])
		}
	}
	for f := api.FaultFetch; f <= api.FaultCall; f++ {
		if faults[f] < 20 {
			t.Errorf("%v was met %d times alone", f, faults[f])
		}
	}
	if halts < 20 {
		t.Error("halts", halts)
	}
}
