package isel

import (
	"slices"

	"patina/api"
	"patina/flow"
)

// Of a local in registers.
const (
	mostWords = 4    // it has at most so many words
	mostRegs  = 1500 // and they are below this one
)

// function writes a function of MIR.
type function struct {
	*writer
	checks
	locals
	fn        api.MFn
	signature signature
	homes     []spot  // of locals; of those without words, and of those that are never named, they say nothing
	following [][]int // the blocks behind each
	order     []int   // of the blocks that are come to
	ways      []int   // how many blocks lead to each one, and to block 0 one more: the call
	starts    []int   // the labels of blocks that are jumped to
	done      []bool  // blocks that are written
	out       int     // the register with the address for the result, if it has more than one word
}

// function is a function of the program as LIR; false: it is too long. One that has too many blocks lets a helper look whether anything went over, as that needs none.
func (p *program) function(k int) (api.LFn, bool) {
	for _, byCalls := range []bool{false, true} {
		w := p.newFunction(k)
		w.byCalls = byCalls
		w.all()
		if f, fits := w.finished(); fits {
			return f, true
		}
	}
	return api.LFn{}, false
}

func (p *program) newFunction(k int) *function {
	fn := p.fns[k]
	w := &function{writer: &writer{program: p, f: api.LFn{Name: fn.Name}}, checks: noChecks(), fn: fn, signature: p.signatureOf(k)}
	w.homes = make([]spot, len(fn.Locals))
	w.following = flow.NextOf(fn.Blocks)
	w.order = flow.Order(w.following, 0)
	w.starts = slices.Repeat([]int{none}, len(fn.Blocks))
	w.done = make([]bool, len(fn.Blocks))
	w.ways = make([]int, len(fn.Blocks))
	w.ways[0] = 1
	for _, b := range w.order {
		for _, to := range w.following[b] {
			w.ways[to]++
		}
	}
	w.locals = p.localsOf(fn, w.order)
	return w
}

// all writes all blocks that are come to. One to which another one alone leads, without a choice, is written behind that.
func (w *function) all() {
	w.enter()
	for _, b := range w.order {
		if w.done[b] {
			continue
		}
		if b > 0 || w.ways[0] > 1 {
			w.stand(w.start(b))
		}
		for b != none && !w.long {
			b = w.block(b)
		}
	}
	w.writeTraps()
}

// start is the label of a block.
func (w *function) start(b int) int {
	if w.starts[b] == none {
		w.starts[b] = w.label()
	}
	return w.starts[b]
}

// block writes a block, and tells which one is to be written right behind it.
func (w *function) block(b int) int {
	w.done[b] = true
	for k := range w.fn.Blocks[b].Stmts {
		if w.long {
			return none
		}
		w.spare()
		w.statement(&w.fn.Blocks[b].Stmts[k])
	}
	w.spare()
	return w.leave(&w.fn.Blocks[b].Term)
}

// enter gives all locals their homes, and brings the parameters there.
func (w *function) enter() {
	w.f.Params = w.signature.params
	w.keep(w.f.Params)
	w.stand(w.label())
	w.over, w.nought = w.keep(1), w.keep(1)
	first := w.parameters()
	w.out = w.signature.params - 1
	for k := range w.fn.Locals {
		if k == 0 || k > w.fn.Params {
			w.settle(k)
		}
	}
	w.areas = w.f.Frame
	for k, r := range first {
		w.parameter(k, r)
	}
}

// parameters gives the parameters their homes, that in which they are passed, if they may stand there, and tells for each the first register in which it is passed.
func (w *function) parameters() []int {
	var first []int
	r := 0
	for k, n := range w.signature.words {
		first = append(first, r)
		switch local := 1 + k; {
		case w.signature.behind[k]:
			n = 1
			fallthrough
		case !w.fitsRegisters(local):
			w.settle(local)
		default:
			w.homes[local] = spot{base: r}
		}
		r += n
	}
	return first
}

// parameter brings a parameter from where it is passed to its home.
func (w *function) parameter(k, first int) {
	local := 1 + k
	passed := spot{base: first}
	if w.signature.behind[k] {
		passed.kind = behind
	}
	if w.named[local] && w.homes[local] != passed {
		w.write(w.homes[local], w.read(passed, w.signature.words[k]))
	}
}

// settle gives a local its home.
func (w *function) settle(local int) {
	n := w.wordsOf(local)
	switch {
	case n == 0 || !w.named[local]:
	case w.fitsRegisters(local) && w.next+n <= mostRegs:
		w.homes[local] = spot{base: w.keep(n)}
	default:
		w.homes[local] = spot{kind: inFrame, base: w.f.Frame}
		w.f.Frame += n
	}
}

// fitsRegisters tells whether a local may stand in registers: no reference points to it, and it has few words.
func (w *function) fitsRegisters(local int) bool {
	return !w.lent[local] && w.wordsOf(local) <= mostWords
}

func (w *function) wordsOf(local int) int { return w.known.Words(w.fn.Locals[local].Type) }
