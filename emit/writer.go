package emit

import (
	"strconv"

	"patina/api"
)

// writer puts a function's items one behind the other.
type writer struct {
	plan
	f     api.LFn
	items []api.Item
}

func (w *writer) put(parts ...api.Item) { w.items = append(w.items, parts...) }

// name is the label of the function itself; all its other labels have a dot behind it, which no name of a function has.
func (w *writer) name() string { return ownPrefix + w.f.Name }

func (w *writer) block(n int) string { return w.name() + "." + strconv.Itoa(n) }

func label(name string) api.Item { return api.Item{Kind: api.ItLabel, Name: name} }

func jump(name string) api.Item { return api.Item{Kind: api.ItJump, Name: name} }

func call(name string) api.Item {
	return api.Item{Kind: api.ItCall, Name: name, I: api.Instr{Rd: way}}
}

func branch(op, rs1, rs2 int, name string) api.Item {
	return api.Item{Kind: api.ItBranch, Name: name, I: api.Instr{Op: op, Rs1: rs1, Rs2: rs2}}
}

func li(rd int, n int64) api.Item {
	return api.Item{Kind: api.ItLi, I: api.Instr{Rd: rd, Imm: n}}
}

func instr(i api.Instr) api.Item { return api.Item{Kind: api.ItInstr, I: i} }

func move(rd, rs int) api.Item { return instr(api.Instr{Op: api.OpAddi, Rd: rd, Rs1: rs}) }

// near tells whether an instruction has room for a number.
func near(n int64) bool { return n >= -2048 && n <= 2047 }

// add makes a register the sum of another one and a number.
func (w *writer) add(rd, rs int, n int64) {
	if near(n) {
		w.put(instr(api.Instr{Op: api.OpAddi, Rd: rd, Rs1: rs, Imm: n}))
		return
	}
	w.put(li(far, n), instr(api.Instr{Op: api.OpAdd, Rd: rd, Rs1: far, Rs2: rs}))
}

// reach is a register and a number near it that together are an address.
func (w *writer) reach(base int, n int64) (int, int64) {
	if near(n) {
		return base, n
	}
	w.add(far, base, n)
	return far, 0
}

func (w *writer) load(rd, base int, n int64) {
	at, n := w.reach(base, n)
	w.put(instr(api.Instr{Op: api.OpLd, Rd: rd, Rs1: at, Imm: n}))
}

func (w *writer) store(rs, base int, n int64) {
	at, n := w.reach(base, n)
	w.put(instr(api.Instr{Op: api.OpSd, Rs1: at, Rs2: rs, Imm: n}))
}

// moves does moves of the machine's registers, all at once.
func (w *writer) moves(from, to []int) {
	l, _ := Parallel(from, to, scratch)
	for _, m := range l {
		w.put(move(m[0], m[1]))
	}
}

// read is a register of the machine that has what a register has: its own, or a spare one.
func (w *writer) read(r, spare int) int {
	if m, ok := w.register(r); ok {
		return m
	}
	w.load(spare, stack, int64(w.slot(r)))
	return spare
}

// readInto brings what a register has into one of the machine's.
func (w *writer) readInto(rd, r int) {
	if m := w.read(r, rd); m != rd {
		w.put(move(rd, m))
	}
}

// target is the machine's register in which a register's next value is made.
func (w *writer) target(r int) int {
	if m, ok := w.register(r); ok {
		return m
	}
	return scratch
}

// set brings what one of the machine's registers has to where a register stands.
func (w *writer) set(r, from int) {
	m, ok := w.register(r)
	switch {
	case !ok:
		w.store(from, stack, int64(w.slot(r)))
	case m != from:
		w.put(move(m, from))
	}
}
