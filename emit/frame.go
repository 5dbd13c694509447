package emit

import (
	"slices"

	"patina/api"
	"patina/live"
)

// stackEnd is the label at which a program ends whose stack does.
const stackEnd = "rt.stack"

// enter is what a function does ahead of its first block.
func (w *writer) enter() {
	w.put(label(w.name()))
	w.open()
	w.clearWords()
	w.takeParams()
	w.clearRegisters()
}

// open makes room for the frame, if there is some left, and saves registers in it.
func (w *writer) open() {
	if w.size == 0 {
		return
	}
	w.add(scratch, stack, -int64(w.size))
	// The sum may be below 0 where little lies below the stack, so signs count.
	w.put(branch(api.OpBlt, scratch, limit, stackEnd), move(stack, scratch))
	for k, r := range w.saved {
		w.store(r, stack, int64(wordSize*k))
	}
}

// close takes all that back, and returns.
func (w *writer) close() {
	for k, r := range w.saved {
		w.load(r, stack, int64(wordSize*k))
	}
	if w.size > 0 {
		w.add(stack, stack, int64(w.size))
	}
	w.put(instr(api.Instr{Op: api.OpJalr, Rs1: way}))
}

// clearWords makes all words of the frame 0, if their address is ever told: else nothing comes to them.
func (w *writer) clearWords() {
	if !slices.ContainsFunc(w.f.Blocks, hasFrame) {
		return
	}
	again := w.name() + ".clear"
	w.add(scratch, stack, int64(w.words))
	w.add(scratch2, stack, int64(w.words+wordSize*w.f.Frame))
	w.put(label(again))
	w.store(zero, scratch, 0)
	w.add(scratch, scratch, wordSize)
	w.put(branch(api.OpBne, scratch, scratch2, again))
}

func hasFrame(b api.LBlock) bool {
	return slices.ContainsFunc(b.Ins, func(i api.LIns) bool { return i.Op == api.LFrame })
}

// takeParams brings the arguments to where the parameters stand: into slots first, as that changes none of the machine's registers.
func (w *writer) takeParams() {
	var from, to []int
	for r := range w.f.Params {
		if m, ok := w.register(r); ok {
			from, to = append(from, argument+r), append(to, m)
		} else {
			w.set(r, argument+r)
		}
	}
	w.moves(from, to)
}

// clearRegisters makes those 0 that may be read ahead of being set. They clash with all parameters, which are there already.
func (w *writer) clearRegisters() {
	in, _ := live.In(w.f)
	for _, r := range in[0] {
		if r >= w.f.Params {
			w.set(r, zero)
		}
	}
}
