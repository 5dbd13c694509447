package emit_test

import (
	"math/rand"
	"strconv"
	"testing"

	"patina/api"
	"patina/color"
	"patina/lir"
)

// maker makes programs of any shape that are never undefined, and print no addresses: those stand in a register of their own, for as long as they are needed.
type maker struct {
	*rand.Rand
	program []api.LFn
	f       *api.LFn
	pointer int // the register for addresses
}

// someProgram is a main and others, which may call each other.
func someProgram(g *rand.Rand) []api.LFn {
	m := &maker{Rand: g}
	for k := range 1 + g.Intn(4) {
		f := api.LFn{Name: "main", Frame: []int{0, 1, 2, 9, 300}[g.Intn(5)]}
		if k > 0 {
			f.Name, f.Params = "f"+strconv.Itoa(k), g.Intn(api.MaxParams+2)
		}
		f.Regs = f.Params + 2 + g.Intn([]int{3, 12, 30}[g.Intn(3)])
		m.program = append(m.program, f)
	}
	for k := range m.program {
		m.f = &m.program[k]
		m.pointer = m.f.Regs - 1
		for range 1 + g.Intn(10) {
			m.f.Blocks = append(m.f.Blocks, api.LBlock{})
		}
		for n := range m.f.Blocks {
			m.f.Blocks[n] = m.block(k, n)
		}
	}
	return m.program
}

// reg is any register but that for addresses.
func (m *maker) reg() int { return m.Intn(m.f.Regs - 1) }

// answer is any such register, or none.
func (m *maker) answer() int { return m.Intn(m.f.Regs) - 1 }

func (m *maker) number() int64 {
	if m.Intn(3) == 0 {
		return int64(m.Uint64()) >> m.Intn(64)
	}
	return edges[m.Intn(len(edges))]
}

func (m *maker) block(k, n int) api.LBlock {
	var l []api.LIns
	for range m.Intn(9) {
		l = append(l, m.some(k)...)
	}
	return block(append(l, m.end(n))...)
}

// some are some instructions of function k.
func (m *maker) some(k int) []api.LIns {
	switch m.Intn(12) {
	case 0:
		return []api.LIns{constant(m.reg(), m.number())}
	case 1, 2, 3:
		return []api.LIns{bin(m.reg(), operationNames[m.Intn(len(operationNames))], m.reg(), m.reg())}
	case 4, 5:
		return []api.LIns{move(m.reg(), m.reg())}
	case 6:
		return m.inFrame()
	case 7:
		return m.onHeap()
	case 8:
		return []api.LIns{calls(m.answer(), "rt.read")}
	case 9, 10:
		return m.call(k)
	}
	return []api.LIns{calls(m.answer(), "rt.print", m.reg())}
}

// inFrame stores a number in a word of the frame, or loads one.
func (m *maker) inFrame() []api.LIns {
	if m.f.Frame == 0 {
		return nil
	}
	word, base := m.Intn(m.f.Frame), m.Intn(m.f.Frame)
	n := int64(8 * (word - base))
	if m.Intn(2) == 0 {
		return []api.LIns{frame(m.pointer, int64(base)), store(m.pointer, n, m.reg())}
	}
	return []api.LIns{frame(m.pointer, int64(base)), load(m.reg(), m.pointer, n)}
}

// onHeap stores and loads in a block, which is given back or is not.
func (m *maker) onHeap() []api.LIns {
	words, size := int64(1+m.Intn(lir.MaxBlock)), m.reg()
	at := int64(8 * m.Intn(int(words)))
	l := []api.LIns{constant(size, words), calls(m.pointer, "rt.alloc", size), store(m.pointer, at, m.reg()), load(m.reg(), m.pointer, at)}
	if m.Intn(4) > 0 {
		l = append(l, constant(size, words), calls(m.answer(), "rt.free", m.pointer, size))
	}
	return l
}

// call is one of any function: mostly of a later one, so that calls come to an end.
func (m *maker) call(k int) []api.LIns {
	if m.Intn(10) > 0 {
		if k++; k == len(m.program) {
			return nil
		}
		k += m.Intn(len(m.program) - k)
	} else {
		k = m.Intn(len(m.program))
	}
	var args []int
	for range m.program[k].Params {
		args = append(args, m.reg())
	}
	return []api.LIns{calls(m.answer(), m.program[k].Name, args...)}
}

// end is a block's end: most lead on to later blocks, so that most functions come back, behind some loops.
func (m *maker) end(n int) api.LIns {
	blocks := len(m.f.Blocks)
	to := func() int {
		if m.Intn(12) > 0 && n+1 < blocks {
			return n + 1 + m.Intn(min(3, blocks-n-1))
		}
		return m.Intn(blocks)
	}
	switch {
	case n+1 == blocks && m.Intn(5) > 0 || m.Intn(15) == 0:
		return ret(m.answer())
	case m.Intn(40) == 0:
		return trap(int64(m.Intn(256)))
	case m.Intn(3) == 0:
		return jump(to())
	}
	return branch(m.reg(), to(), to())
}

// P7, P8, 9.1, 9.4: programs of any shape, with places of every kind: each function, called by itself, and the whole.
func TestAnyPrograms(t *testing.T) {
	g := rand.New(rand.NewSource(12))
	ended, in := 0, []byte("some input\x00\xff")
	for n := range 700 {
		l := someProgram(g)
		if e := lir.Check(l); e != api.OK {
			t.Fatal(n, e)
		}
		all := choosers(g)
		choose := all[n%len(all)]
		if n%7 == 0 {
			choose = byChance(g, 1+g.Intn(3), 1+g.Intn(300))
		}
		x := items(t, l, choose)
		b := onBench(t, x)
		for _, f := range l {
			var args []int64
			for range f.Params {
				args = append(args, (&maker{Rand: g}).number())
			}
			b.wantFunction(strconv.Itoa(n)+" "+f.Name, l, f.Name, in, args...)
		}
		if o, _ := lir.Run(l, in, fuel); o.End == api.EndDone && o.Code != api.ExitHeap {
			ended++
			wantProgram(t, strconv.Itoa(n), l, x, in)
			wantProgram(t, strconv.Itoa(n)+" Program", l, ofProgram(t, l), in)
		}
		if t.Failed() {
			text, _ := lir.Text(l)
			t.Fatal(text)
		}
	}
	if ended < 300 {
		t.Error("too few that end", ended)
	}
}

// P8: places that are handed out here are right, and use colours and slots of all kinds.
func TestChoosers(t *testing.T) {
	g := rand.New(rand.NewSource(13))
	colours, slots := map[int]bool{}, map[int]bool{}
	for range 100 {
		for _, f := range someProgram(g) {
			for k, choose := range choosers(g) {
				places := choose(f)
				if e := color.Check(f, color.Colors, places); e != api.OK {
					t.Fatal(k, e)
				}
				for _, p := range places {
					colours[p], slots[p] = colours[p] || p >= 0, slots[p] || p < -1000
				}
			}
		}
	}
	for c := range color.Colors {
		if !colours[c] {
			t.Error("no register has", c)
		}
	}
	if len(slots) < 100 {
		t.Error("few slots", len(slots))
	}
}
