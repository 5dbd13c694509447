package asm

import (
	"math"
	"math/rand"
	"slices"
	"testing"

	"patina/api"
	"patina/cpu"
	"patina/rv"
)

const runAt = 4096

// machine is one that begins at runAt with words and registers.
func machine(t *testing.T, at uint64, text []byte, regs [32]uint64) *cpu.Machine {
	t.Helper()
	base := at / api.PageSize * api.PageSize
	b := make([]byte, 2*api.PageSize)
	copy(b[at-base:], text)
	const rx = api.PermRead + api.PermExec
	pages := []api.Page{{Base: base, Perm: rx, Bytes: b[:api.PageSize]}, {Base: base + api.PageSize, Perm: rx, Bytes: b[api.PageSize:]}}
	m, e := cpu.New(api.Cpu{PC: at, Regs: regs}, pages, nil)
	if e != api.OK {
		t.Fatal(e)
	}
	return m
}

// loaded is what instructions bring into a register.
func loaded(t *testing.T, l []api.Instr, rd int) int64 {
	t.Helper()
	var b []byte
	for _, i := range l {
		w, e := rv.Encode(i)
		if e != api.OK {
			t.Fatal(i, e)
		}
		b = append(b, byte(w), byte(w>>8), byte(w>>16), byte(w>>24))
	}
	var regs [32]uint64
	for k := 1; k < 32; k++ {
		regs[k] = 0xa5a5a5a5a5a5a5a5
	}
	m := machine(t, runAt, b, regs)
	if n := m.Run(len(l)); n != len(l) {
		t.Fatal(l, m.State().Fault)
	}
	c := m.State()
	for k := 1; k < 32; k++ {
		if k != rd && c.Regs[k] != regs[k] {
			t.Error("another register", k)
		}
	}
	return int64(c.Regs[rd])
}

func addi(rd, rs1 int, n int64) api.Instr {
	return api.Instr{Op: api.OpAddi, Rd: rd, Rs1: rs1, Imm: n}
}
func addiw(rd int, n int64) api.Instr {
	return api.Instr{Op: api.OpAddiw, Rd: rd, Rs1: rd, Imm: n}
}
func slli(rd int, n int64) api.Instr { return api.Instr{Op: api.OpSlli, Rd: rd, Rs1: rd, Imm: n} }
func lui(rd int, n int64) api.Instr  { return api.Instr{Op: api.OpLui, Rd: rd, Imm: n} }

// 5.2: the chapter's examples, and the ends of its three ways, by hand.
func TestLiByHand(t *testing.T) {
	for _, c := range []struct {
		n    int64
		want []api.Instr
	}{
		{0, []api.Instr{addi(5, 0, 0)}},
		{2047, []api.Instr{addi(5, 0, 2047)}},
		{-2048, []api.Instr{addi(5, 0, -2048)}},
		{2048, []api.Instr{lui(5, 1), addiw(5, -2048)}},
		{-2049, []api.Instr{lui(5, -1), addiw(5, 2047)}},
		{4096, []api.Instr{lui(5, 1)}},
		{4095, []api.Instr{lui(5, 1), addiw(5, -1)}},
		{-4096, []api.Instr{lui(5, -1)}},
		{6143, []api.Instr{lui(5, 1), addiw(5, 2047)}},
		{6144, []api.Instr{lui(5, 2), addiw(5, -2048)}},
		{0x7ffff000, []api.Instr{lui(5, 0x7ffff)}},
		{0x7ffff7ff, []api.Instr{lui(5, 0x7ffff), addiw(5, 2047)}},
		{0x7ffff800, []api.Instr{lui(5, -1<<19), addiw(5, -2048)}},
		{math.MaxInt32, []api.Instr{lui(5, -1<<19), addiw(5, -1)}},
		{math.MinInt32, []api.Instr{lui(5, -1<<19)}},
		{math.MinInt32 + 1, []api.Instr{lui(5, -1<<19), addiw(5, 1)}},
		{1 << 31, []api.Instr{addi(5, 0, 1), slli(5, 31)}},
		{1<<31 - 1 + 2, []api.Instr{addi(5, 0, 1), slli(5, 31), addi(5, 5, 1)}},
		{math.MinInt32 - 1, []api.Instr{addi(5, 0, -1), slli(5, 31), addi(5, 5, -1)}},
		{1 << 32, []api.Instr{addi(5, 0, 1), slli(5, 32)}},
		{1<<32 - 1, []api.Instr{addi(5, 0, 1), slli(5, 32), addi(5, 5, -1)}},
		{math.MaxInt64, []api.Instr{addi(5, 0, -1), slli(5, 63), addi(5, 5, -1)}},
		{math.MinInt64, []api.Instr{addi(5, 0, -1), slli(5, 63)}},
		{math.MinInt64 + 1, []api.Instr{addi(5, 0, -1), slli(5, 63), addi(5, 5, 1)}},
		{0x123456789abcdef0, []api.Instr{lui(5, 0x247), addiw(5, -1875), slli(5, 14), addi(5, 5, -947), slli(5, 12), addi(5, 5, 1511), slli(5, 13), addi(5, 5, -272)}},
	} {
		l, e := Li(5, c.n)
		if e != api.OK || loaded(t, l, 5) != c.n {
			t.Errorf("Li(%d): %v, %v", c.n, l, e)
		}
		if !slices.Equal(l, c.want) {
			t.Errorf("Li(%d): %v, not %v", c.n, l, c.want)
		}
	}
}

// wantLi holds what Li tells of a number to the chapter's three ways, step by step from the back.
func wantLi(t *testing.T, n int64, l []api.Instr) {
	t.Helper()
	switch {
	case n >= -2048 && n <= 2047:
		if !slices.Equal(l, []api.Instr{addi(5, 0, n)}) {
			t.Errorf("%d, the first way: %v", n, l)
		}
		return
	case n >= -1<<31 && n < 1<<31:
		if len(l) < 1 || len(l) > 2 || l[0].Op != api.OpLui || (len(l) == 2) != (n%4096 != 0) || len(l) == 2 && l[1].Op != api.OpAddiw {
			t.Errorf("%d, the second way: %v", n, l)
		}
		return
	}
	low := (n%4096+4096+2048)%4096 - 2048
	if last := len(l) - 1; low != 0 {
		if last < 0 || l[last] != addi(5, 5, low) {
			t.Errorf("%d, the third way's last: %v", n, l)
			return
		}
		l, n = l[:last], n-low
	}
	zeros := int64(0)
	for n%2 == 0 {
		n /= 2
		zeros++
	}
	if last := len(l) - 1; last < 0 || l[last] != slli(5, zeros) {
		t.Errorf("%d, the third way's shift: %v", n, l)
		return
	}
	wantLi(t, n, l[:len(l)-1])
}

// 5.2, 5.6: numbers near all ends, and at random: the instructions are those of the three ways, and what they load is the number.
func TestLi(t *testing.T) {
	var l []int64
	for b := range 64 {
		for d := int64(-3); d <= 3; d++ {
			l = append(l, 1<<b+d, -1<<b+d, 1<<b+2048+d, -1<<b-2048+d, 1<<b+4096+d, 1<<b-2048+d)
		}
	}
	r := rand.New(rand.NewSource(2))
	for range 20000 {
		l = append(l, int64(r.Uint64()), int64(r.Uint64())>>r.Intn(64), int64(r.Uint64())<<r.Intn(64), int64(int32(r.Uint32())))
	}
	for _, n := range l {
		x, e := Li(5, n)
		if e != api.OK || len(x) == 0 || len(x) > 8 {
			t.Fatal(n, x, e)
		}
		wantLi(t, n, x)
	}
	for k := 0; k < len(l); k += 17 {
		x, _ := Li(5, l[k])
		if v := loaded(t, x, 5); v != l[k] {
			t.Fatalf("Li(%d) loads %d: %v", l[k], v, x)
		}
	}
}

// 5.2, R4: registers at their ends and beyond.
func TestLiRegisters(t *testing.T) {
	for _, rd := range []int{0, 1, 6, 31} {
		for _, n := range []int64{1, 5000, 1 << 40} {
			l, e := Li(rd, n)
			if e != api.OK || len(l) == 0 {
				t.Fatal(rd, e)
			}
			for _, i := range l {
				if i.Rd != rd || rv.Check(i) != api.OK {
					t.Error(rd, i)
				}
			}
			if want := n; rd > 0 && loaded(t, l, rd) != want {
				t.Error(rd, l)
			}
		}
	}
	for _, rd := range []int{-1, 32, 64, math.MinInt, math.MaxInt, 1<<32 + 5} {
		if l, e := Li(rd, 1); e != api.ErrArg || len(l) != 0 {
			t.Errorf("Li(%d): %v, %v", rd, l, e)
		}
	}
}

// 5.2, 5.6: an item that loads takes as many instructions, which are those of Li.
func TestLiItems(t *testing.T) {
	for _, n := range []int64{0, 2047, 2048, 4096, math.MaxInt32, 1 << 31, math.MinInt64, 0x123456789abcdef1} {
		want, _ := Li(9, n)
		c, sizes := made(t, []api.Item{li(9, n), label("end")}, nil, runAt, 0)
		if sizes[0] != 4*len(want) || c.Labels[0].Addr != runAt+uint64(sizes[0]) {
			t.Error(n, sizes, c.Labels)
		}
		m := machine(t, runAt, c.Text, [32]uint64{})
		m.Run(len(want))
		if s := m.State(); int64(s.Regs[9]) != n || s.PC != c.Labels[0].Addr {
			t.Error(n, s.Regs[9], s.PC)
		}
	}
}
