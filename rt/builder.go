package rt

import (
	"strings"

	"patina/api"
)

// The machine's registers that have a meaning of their own.
const (
	zero    = 0  // always 0
	way     = 1  // where a function goes back to
	stack   = 2  // the stack's pointer
	limit   = 3  // the stack's limit
	value   = 10 // a function's first argument, and its answer
	second  = 11 // its second argument
	service = 17 // what ecall shall do
)

// What ecall does, by the number in service.
const (
	serviceRead  = 63
	servicePrint = 64
	serviceEnd   = 93
)

// items are those that a builder has made.
type items struct {
	list []api.Item
}

func (l *items) put(x ...api.Item) { l.list = append(l.list, x...) }

// scope is the function that a builder is at.
type scope struct {
	function string
}

// whole is a label's name: one that begins with a dot is the function's own.
func (s *scope) whole(name string) string {
	if strings.HasPrefix(name, ".") {
		return s.function + name
	}
	return name
}

// builder makes the runtime's items. Its methods answer it again, so that a function's instructions stand one behind the other.
type builder struct {
	items
	scope
}

// begin begins a function, or a part of the data.
func (b *builder) begin(name string) *builder {
	b.function = name
	return b.label(name)
}

func (b *builder) label(name string) *builder {
	b.put(api.Item{Kind: api.ItLabel, Name: b.whole(name)})
	return b
}

// instr puts an instruction of which any form's fields are given; those that its form has not are 0.
func (b *builder) instr(op, rd, rs1, rs2 int, imm int64) *builder {
	b.put(api.Item{Kind: api.ItInstr, I: api.Instr{Op: op, Rd: rd, Rs1: rs1, Rs2: rs2, Imm: imm}})
	return b
}

// of makes a number of two registers.
func (b *builder) of(op, rd, rs1, rs2 int) *builder { return b.instr(op, rd, rs1, rs2, 0) }

// with makes a number of a register and a number.
func (b *builder) with(op, rd, rs1 int, imm int64) *builder { return b.instr(op, rd, rs1, 0, imm) }

func (b *builder) move(rd, rs int) *builder { return b.with(api.OpAddi, rd, rs, 0) }

// load loads the word at an address.
func (b *builder) load(rd, at int) *builder { return b.with(api.OpLd, rd, at, 0) }

// store stores a word at an address.
func (b *builder) store(rs, at int) *builder { return b.instr(api.OpSd, 0, at, rs, 0) }

func (b *builder) li(rd int, n int64) *builder {
	b.put(api.Item{Kind: api.ItLi, I: api.Instr{Rd: rd, Imm: n}})
	return b
}

func (b *builder) la(rd int, name string) *builder {
	b.put(api.Item{Kind: api.ItLa, Name: b.whole(name), I: api.Instr{Rd: rd}})
	return b
}

func (b *builder) jump(name string) *builder {
	b.put(api.Item{Kind: api.ItJump, Name: b.whole(name)})
	return b
}

func (b *builder) call(name string) *builder {
	b.put(api.Item{Kind: api.ItCall, Name: b.whole(name), I: api.Instr{Rd: way}})
	return b
}

func (b *builder) branch(op, rs1, rs2 int, name string) *builder {
	b.put(api.Item{Kind: api.ItBranch, Name: b.whole(name), I: api.Instr{Op: op, Rs1: rs1, Rs2: rs2}})
	return b
}

func (b *builder) space(bytes int64) *builder {
	b.put(api.Item{Kind: api.ItSpace, I: api.Instr{Imm: bytes}})
	return b
}

func (b *builder) ecall() *builder { return b.instr(api.OpEcall, 0, 0, 0, 0) }

// back goes back to whoever called.
func (b *builder) back() *builder { return b.with(api.OpJalr, zero, way, 0) }

// end ends the program with a code.
func (b *builder) end(code int64) *builder { return b.li(value, code).li(service, serviceEnd).ecall() }
