package lir

import (
	"strconv"

	"patina/api"
)

// running is a program at work.
type running struct {
	program    []api.LFn
	functions  map[string]int // where each one stands in the program, by its name
	operations map[string]operation
	calls      []call // those that are not back, each within the one ahead of it
	memory     memory
	heap       int    // how many words the blocks have that have not ended
	in         []byte // what was not read
	told       api.Outcome
}

// call is a call of a function that is not back.
type call struct {
	blocks []api.LBlock
	regs   []int64
	frame  int64 // its frame's address
	words  int   // and how many words that has
	block  int   // where it is
	at     int
	answer int // the caller's register that takes what it answers; none: it is let go
}

// The runtime's functions.
const (
	rtPrint = "rt.print"
	rtRead  = "rt.read"
	rtAlloc = "rt.alloc"
	rtFree  = "rt.free"
)

// runtimeArgs is how many arguments one of the runtime's functions has; false: it is none of them.
func runtimeArgs(name string) (int, bool) {
	switch name {
	case rtRead:
		return 0, true
	case rtPrint, rtAlloc:
		return 1, true
	case rtFree:
		return 2, true
	}
	return 0, false
}

// outcome is what a program that is right does.
func outcome(l []api.LFn, in []byte, fuel int) api.Outcome {
	r := &running{program: l, functions: map[string]int{}, operations: operations(), in: in}
	r.memory.next = first
	for k, f := range l {
		r.functions[f.Name] = k
	}
	r.enter(0, nil, none)
	for r.told.End == 0 {
		i := r.instruction()
		if r.told.Steps == fuel || r.tooDeep(i) {
			r.end(api.EndFuel, 0)
			break
		}
		r.told.Steps++
		r.do(i)
	}
	return r.told
}

// end ends the program.
func (r *running) end(end, code int) { r.told.End, r.told.Code = end, code }

// innermost is the call that is at work.
func (r *running) innermost() *call { return &r.calls[len(r.calls)-1] }

// instruction is the next one.
func (r *running) instruction() *api.LIns {
	c := r.innermost()
	return &c.blocks[c.block].Ins[c.at]
}

// tooDeep tells whether an instruction is a call that is one too many. Only functions of the program are counted: the runtime's have no frame.
func (r *running) tooDeep(i *api.LIns) bool {
	if i.Op != api.LCall || len(r.calls) < MaxCalls {
		return false
	}
	_, runtime := runtimeArgs(i.Name)
	return !runtime
}

// do does an instruction.
func (r *running) do(i *api.LIns) {
	c := r.innermost()
	c.at++
	switch i.Op {
	case api.LConst:
		c.regs[i.D] = i.N
	case api.LMove:
		c.regs[i.D] = c.regs[i.A]
	case api.LBin:
		c.regs[i.D] = r.operations[i.Name].do(c.regs[i.A], c.regs[i.B])
	case api.LLoad:
		if w := r.word(c.regs[i.A] + i.N); w != nil {
			c.regs[i.D] = *w
		}
	case api.LStore:
		if w := r.word(c.regs[i.A] + i.N); w != nil {
			*w = c.regs[i.B]
		}
	case api.LFrame:
		c.regs[i.D] = c.frame + wordSize*i.N
	case api.LCall:
		r.call(i)
	case api.LJump:
		c.block, c.at = i.To, 0
	case api.LIf:
		c.block, c.at = i.Else, 0
		if c.regs[i.A] != 0 {
			c.block = i.To
		}
	case api.LRet:
		r.back(c.value(i.A))
	case api.LTrap:
		r.end(api.EndDone, int(i.N))
	}
}

// value is what a register has; of none 0.
func (c *call) value(r int) int64 {
	if r == none {
		return 0
	}
	return c.regs[r]
}

// word is the word at an address; nil: it is not there, and the program has ended.
func (r *running) word(at int64) *int64 {
	w := r.memory.word(at)
	if w == nil {
		r.end(api.EndUndef, 0)
	}
	return w
}

// call calls a function, or lets the runtime do what is asked for.
func (r *running) call(i *api.LIns) {
	c := r.innermost()
	args := make([]int64, len(i.Args))
	for k, a := range i.Args {
		args[k] = c.regs[a]
	}
	switch i.Name {
	case rtPrint:
		r.answer(i.D, r.print(args[0]))
	case rtRead:
		r.answer(i.D, r.read())
	case rtAlloc:
		r.answer(i.D, r.alloc(args[0]))
	case rtFree:
		r.answer(i.D, r.free(args[0], args[1]))
	default:
		r.enter(r.functions[i.Name], args, i.D)
	}
}

// enter begins a call of a function.
func (r *running) enter(k int, args []int64, answer int) {
	f := r.program[k]
	regs := make([]int64, f.Regs)
	copy(regs, args)
	frame := r.memory.begin(partFrame, f.Frame)
	r.calls = append(r.calls, call{blocks: f.Blocks, regs: regs, frame: frame, words: f.Frame, answer: answer})
}

// back ends the call that is at work, which answers v.
func (r *running) back(v int64) {
	c := *r.innermost()
	r.memory.end(partFrame, c.frame, int64(c.words))
	r.calls = r.calls[:len(r.calls)-1]
	if len(r.calls) == 0 {
		r.end(api.EndDone, api.ExitDone)
		return
	}
	r.answer(c.answer, v)
}

// answer puts what a call answered where the innermost one wants it.
func (r *running) answer(d int, v int64) {
	if d != none {
		r.innermost().regs[d] = v
	}
}

func (r *running) print(v int64) int64 {
	r.told.Out = append(strconv.AppendInt(r.told.Out, v, 10), '\n')
	return 0
}

func (r *running) read() int64 {
	if len(r.in) == 0 {
		return -1
	}
	b := r.in[0]
	r.in = r.in[1:]
	return int64(b)
}

func (r *running) alloc(n int64) int64 {
	if n < 0 || n > MaxBlock || r.heap+int(n) > HeapWords {
		r.end(api.EndDone, api.ExitHeap)
		return 0
	}
	r.heap += int(n)
	return r.memory.begin(partBlock, int(n))
}

func (r *running) free(at, n int64) int64 {
	if !r.memory.end(partBlock, at, n) {
		r.end(api.EndUndef, 0)
		return 0
	}
	r.heap -= int(n)
	return 0
}
