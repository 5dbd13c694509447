package emit

import (
	"strings"

	"patina/api"
	"patina/rv"
)

// none stands where an instruction could name a register, and names none.
const none = -1

// serviceEnd is the number of the ecall that ends the program.
const serviceEnd = 93

// Beginnings of labels: of a program's functions, and of the runtime's.
const (
	ownPrefix     = "f."
	runtimePrefix = "rt."
)

// do puts the items of an instruction of a block.
func (w *writer) do(i api.LIns, block int) {
	switch i.Op {
	case api.LConst, api.LBin, api.LLoad, api.LFrame:
		d := w.target(i.D)
		w.compute(i, d)
		w.set(i.D, d)
	case api.LMove:
		w.move(i.D, i.A)
	case api.LStore:
		a, b := w.read(i.A, scratch), w.read(i.B, scratch2)
		w.store(b, a, i.N)
	case api.LCall:
		w.call(i)
	case api.LIf:
		i.To = w.branchOff(i, block)
		fallthrough
	case api.LJump:
		if i.To != block+1 {
			w.put(jump(w.block(i.To)))
		}
	case api.LRet:
		w.answer(i.A)
		w.close()
	case api.LTrap:
		w.put(li(argument, i.N), li(service, serviceEnd), instr(api.Instr{Op: api.OpEcall}))
	}
}

// compute makes in one of the machine's registers what an instruction sets its register to.
func (w *writer) compute(i api.LIns, d int) {
	switch i.Op {
	case api.LConst:
		w.put(li(d, i.N))
	case api.LBin:
		a, b := w.read(i.A, scratch), w.read(i.B, scratch2)
		w.put(instr(api.Instr{Op: operation(i.Name), Rd: d, Rs1: a, Rs2: b}))
	case api.LLoad:
		w.load(d, w.read(i.A, scratch), i.N)
	case api.LFrame:
		w.add(d, stack, int64(w.words)+wordSize*i.N)
	}
}

// operation is the machine's operation of a name: LIR's have the names that the machine's have.
func operation(name string) int {
	for op := api.OpAdd; op <= api.OpRemu; op++ {
		if rv.Name(op) == name {
			return op
		}
	}
	return 0
}

// move does LMove; where both have the same place, there is nothing to do.
func (w *writer) move(d, a int) {
	if w.places[d] == w.places[a] {
		return
	}
	if m, ok := w.register(d); ok {
		w.readInto(m, a)
		return
	}
	w.set(d, w.read(a, scratch))
}

// branchOff puts the branch of LIf, and tells to which block it goes on where that is not taken: the next one, if it can be.
func (w *writer) branchOff(i api.LIns, block int) int {
	if i.To == i.Else {
		return i.To
	}
	a := w.read(i.A, scratch)
	if i.To == block+1 {
		w.put(branch(api.OpBeq, a, zero, w.block(i.Else)))
		return i.To
	}
	w.put(branch(api.OpBne, a, zero, w.block(i.To)))
	return i.Else
}

func (w *writer) call(i api.LIns) {
	w.giveArgs(i.Args)
	name := i.Name
	if !strings.HasPrefix(name, runtimePrefix) {
		name = ownPrefix + name
	}
	w.put(call(name))
	if i.D != none {
		w.set(i.D, argument)
	}
}

// giveArgs brings registers to where a call's arguments stand: out of slots last, as that changes what others may stand in.
func (w *writer) giveArgs(args []int) {
	var from, to []int
	for k, r := range args {
		if m, ok := w.register(r); ok {
			from, to = append(from, m), append(to, argument+k)
		}
	}
	w.moves(from, to)
	for k, r := range args {
		if _, ok := w.register(r); !ok {
			w.readInto(argument+k, r)
		}
	}
}

// answer brings what a function answers to where it must be.
func (w *writer) answer(a int) {
	if a == none {
		w.put(li(argument, 0))
		return
	}
	w.readInto(argument, a)
}
