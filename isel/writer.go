package isel

import (
	"patina/api"
	"patina/lir"
)

// none stands where an instruction could name a register, and names none; and for a word of a value that may be anything.
const none = -1

// freshRegs is how many registers are given out for statements before they are given out again. (Other ones for each statement find better places; but too many take long to place.)
const freshRegs = 512

// wordSize is by how much addresses of words are apart.
const wordSize = 8

// writer writes a function of LIR. Its jumps lead to labels until it is finished.
type writer struct {
	*program
	f      api.LFn
	labels []int // the blocks ahead of which they stand
	open   bool  // the block at hand has no end yet
	next   int   // the first register that was not given out
	temps  int   // from which one on they are given out again
	areas  int   // the frame's first word that statements may use for what they need
	long   bool  // there is more than LIR allows
}

// label is a new label, which stands nowhere yet.
func (w *writer) label() int {
	w.labels = append(w.labels, none)
	return len(w.labels) - 1
}

// stand begins a block at a label, if there is none that has nothing yet; what was open goes on there.
func (w *writer) stand(label int) {
	if !w.open || len(w.last().Ins) > 0 {
		w.jump(label)
		if len(w.f.Blocks) == api.MaxBlocks {
			w.long = true
			return
		}
		w.f.Blocks = append(w.f.Blocks, api.LBlock{})
		w.open = true
	}
	w.labels[label] = len(w.f.Blocks) - 1
}

// put writes an instruction that is no end. The last one that a block has room for must be an end.
func (w *writer) put(i api.LIns) {
	if !w.long && len(w.last().Ins) == lir.MaxIns-1 {
		w.stand(w.label())
	}
	if !w.long {
		b := w.last()
		b.Ins = append(b.Ins, i)
	}
}

// end writes the end of the block at hand, if it has none.
func (w *writer) end(i api.LIns) {
	if w.open && !w.long {
		b := w.last()
		b.Ins = append(b.Ins, i)
	}
	w.open = false
}

func (w *writer) last() *api.LBlock { return &w.f.Blocks[len(w.f.Blocks)-1] }

func (w *writer) jump(label int) { w.end(api.LIns{Op: api.LJump, To: label}) }

// branch goes on to one label, if a register is not 0, else to another one.
func (w *writer) branch(a, to, other int) {
	w.end(api.LIns{Op: api.LIf, A: a, To: to, Else: other})
}

// finished is the function, whose jumps lead to blocks; false: it is too long.
func (w *writer) finished() (api.LFn, bool) {
	if w.long || w.f.Regs > lir.MaxRegs || w.f.Frame > lir.MaxFrame {
		return api.LFn{}, false
	}
	for _, b := range w.f.Blocks {
		switch end := &b.Ins[len(b.Ins)-1]; end.Op {
		case api.LIf:
			end.Else = w.labels[end.Else]
			fallthrough
		case api.LJump:
			end.To = w.labels[end.To]
		}
	}
	return w.f, true
}

// give gives out registers, one behind the other: the first one.
func (w *writer) give(count int) int {
	r := w.next
	w.next += count
	w.f.Regs = max(w.f.Regs, w.next)
	return r
}

// keep gives out registers that are given out once.
func (w *writer) keep(count int) int {
	r := w.give(count)
	w.temps = w.next
	return r
}

// temp is a register for what a statement needs.
func (w *writer) temp() int { return w.give(1) }

// spare lets registers of single statements be given out again, if many were.
func (w *writer) spare() {
	if w.next > w.temps+freshRegs {
		w.next = w.temps
	}
}

func (w *writer) constant(n int64) int {
	d := w.temp()
	w.put(api.LIns{Op: api.LConst, D: d, N: n})
	return d
}

func (w *writer) binary(name string, a, b int) int {
	d := w.temp()
	w.put(api.LIns{Op: api.LBin, D: d, A: a, B: b, Name: name})
	return d
}

func (w *writer) load(at, word int) int {
	d := w.temp()
	w.put(api.LIns{Op: api.LLoad, D: d, A: at, N: int64(wordSize * word)})
	return d
}

func (w *writer) store(at, word, value int) {
	w.put(api.LIns{Op: api.LStore, A: at, B: value, N: int64(wordSize * word)})
}

// move brings what a register has into another one. What was made for that alone, just now, is made there at once.
func (w *writer) move(d, a int) {
	if d == a || w.long {
		return
	}
	if l := w.last().Ins; a >= w.temps && len(l) > 0 {
		if made := &l[len(l)-1]; made.Op != api.LStore && made.D == a {
			made.D = d
			return
		}
	}
	w.put(api.LIns{Op: api.LMove, D: d, A: a})
}

// call calls a function that answers nothing.
func (w *writer) call(name string, args ...int) {
	w.put(api.LIns{Op: api.LCall, D: none, Name: name, Args: args})
}

// ask calls a function, and is what it answers.
func (w *writer) ask(name string, args ...int) int {
	d := w.temp()
	w.put(api.LIns{Op: api.LCall, D: d, Name: name, Args: args})
	return d
}
