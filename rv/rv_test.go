package rv

import (
	"math"
	"math/rand"
	"reflect"
	"strings"
	"testing"

	"patina/api"
)

// allNames are the operations' names in the order of their numbers, from 1 on.
const allNames = "lui auipc jal jalr beq bne blt bge bltu bgeu lb lh lw ld lbu lhu lwu sb sh sw sd " +
	"addi slti sltiu xori ori andi slli srli srai addiw slliw srliw sraiw add sub sll slt sltu xor srl sra or and " +
	"addw subw sllw srlw sraw mul mulh mulhsu mulhu div divu rem remu mulw divw divuw remw remuw fence ecall ebreak"

// sample is an instruction with the word that GNU as makes of it, and its text.
type sample struct {
	i    api.Instr
	word uint32
	text string
}

// samples has each operation once, in the order of their numbers.
var samples = []sample{
	{api.Instr{Op: api.OpLui, Rd: 11, Imm: 303716}, 0x4a2645b7, "lui x11,303716"},
	{api.Instr{Op: api.OpAuipc, Rd: 3, Imm: -377791}, 0xa3c41197, "auipc x3,-377791"},
	{api.Instr{Op: api.OpJal, Rd: 19, Imm: -121292}, 0xe34e29ef, "jal x19,-121292"},
	{api.Instr{Op: api.OpJalr, Rd: 19, Rs1: 10, Imm: -509}, 0xe03509e7, "jalr x19,-509(x10)"},
	{api.Instr{Op: api.OpBeq, Rs1: 22, Rs2: 18, Imm: 814}, 0x332b0763, "beq x22,x18,814"},
	{api.Instr{Op: api.OpBne, Rs1: 25, Rs2: 8, Imm: 620}, 0x268c9663, "bne x25,x8,620"},
	{api.Instr{Op: api.OpBlt, Rs1: 14, Rs2: 6, Imm: -2826}, 0xce674b63, "blt x14,x6,-2826"},
	{api.Instr{Op: api.OpBge, Rs1: 12, Rs2: 20, Imm: 3670}, 0x65465be3, "bge x12,x20,3670"},
	{api.Instr{Op: api.OpBltu, Rs1: 23, Rs2: 10, Imm: 3468}, 0x58abe6e3, "bltu x23,x10,3468"},
	{api.Instr{Op: api.OpBgeu, Rs1: 4, Rs2: 16, Imm: 2422}, 0x17027be3, "bgeu x4,x16,2422"},
	{api.Instr{Op: api.OpLb, Rd: 3, Rs1: 6, Imm: -927}, 0xc6130183, "lb x3,-927(x6)"},
	{api.Instr{Op: api.OpLh, Rd: 31, Rs1: 8, Imm: -809}, 0xcd741f83, "lh x31,-809(x8)"},
	{api.Instr{Op: api.OpLw, Rd: 9, Rs1: 10, Imm: 976}, 0x3d052483, "lw x9,976(x10)"},
	{api.Instr{Op: api.OpLd, Rd: 13, Rs1: 13, Imm: 1232}, 0x4d06b683, "ld x13,1232(x13)"},
	{api.Instr{Op: api.OpLbu, Rd: 6, Rs1: 4, Imm: -2047}, 0x80124303, "lbu x6,-2047(x4)"},
	{api.Instr{Op: api.OpLhu, Rd: 28, Rs1: 7, Imm: 18}, 0x0123de03, "lhu x28,18(x7)"},
	{api.Instr{Op: api.OpLwu, Rd: 28, Rs1: 16, Imm: 506}, 0x1fa86e03, "lwu x28,506(x16)"},
	{api.Instr{Op: api.OpSb, Rs1: 27, Rs2: 23, Imm: 915}, 0x397d89a3, "sb x23,915(x27)"},
	{api.Instr{Op: api.OpSh, Rs1: 28, Rs2: 9, Imm: -223}, 0xf29e10a3, "sh x9,-223(x28)"},
	{api.Instr{Op: api.OpSw, Rs1: 13, Rs2: 24, Imm: 864}, 0x3786a023, "sw x24,864(x13)"},
	{api.Instr{Op: api.OpSd, Rs1: 7, Rs2: 23, Imm: 939}, 0x3b73b5a3, "sd x23,939(x7)"},
	{api.Instr{Op: api.OpAddi, Rd: 16, Rs1: 7, Imm: 770}, 0x30238813, "addi x16,x7,770"},
	{api.Instr{Op: api.OpSlti, Rd: 26, Rs1: 23, Imm: 675}, 0x2a3bad13, "slti x26,x23,675"},
	{api.Instr{Op: api.OpSltiu, Rd: 13, Rs1: 24, Imm: -1823}, 0x8e1c3693, "sltiu x13,x24,-1823"},
	{api.Instr{Op: api.OpXori, Rd: 20, Rs1: 27, Imm: -1873}, 0x8afdca13, "xori x20,x27,-1873"},
	{api.Instr{Op: api.OpOri, Rd: 14, Rs1: 28, Imm: 351}, 0x15fe6713, "ori x14,x28,351"},
	{api.Instr{Op: api.OpAndi, Rd: 18, Rs1: 14, Imm: 1397}, 0x57577913, "andi x18,x14,1397"},
	{api.Instr{Op: api.OpSlli, Rd: 28, Rs1: 15, Imm: 39}, 0x02779e13, "slli x28,x15,39"},
	{api.Instr{Op: api.OpSrli, Rd: 11, Rs1: 22, Imm: 34}, 0x022b5593, "srli x11,x22,34"},
	{api.Instr{Op: api.OpSrai, Rd: 17, Rs1: 15, Imm: 60}, 0x43c7d893, "srai x17,x15,60"},
	{api.Instr{Op: api.OpAddiw, Rd: 17, Rs1: 31, Imm: 1365}, 0x555f889b, "addiw x17,x31,1365"},
	{api.Instr{Op: api.OpSlliw, Rd: 11, Rs1: 3, Imm: 23}, 0x0171959b, "slliw x11,x3,23"},
	{api.Instr{Op: api.OpSrliw, Rd: 5, Rs1: 9, Imm: 14}, 0x00e4d29b, "srliw x5,x9,14"},
	{api.Instr{Op: api.OpSraiw, Rd: 6, Rs1: 23, Imm: 23}, 0x417bd31b, "sraiw x6,x23,23"},
	{api.Instr{Op: api.OpAdd, Rd: 1, Rs1: 11, Rs2: 18}, 0x012580b3, "add x1,x11,x18"},
	{api.Instr{Op: api.OpSub, Rd: 30, Rs1: 26, Rs2: 8}, 0x408d0f33, "sub x30,x26,x8"},
	{api.Instr{Op: api.OpSll, Rd: 27, Rs1: 14, Rs2: 28}, 0x01c71db3, "sll x27,x14,x28"},
	{api.Instr{Op: api.OpSlt, Rd: 26, Rs1: 23, Rs2: 6}, 0x006bad33, "slt x26,x23,x6"},
	{api.Instr{Op: api.OpSltu, Rd: 3, Rs1: 9, Rs2: 28}, 0x01c4b1b3, "sltu x3,x9,x28"},
	{api.Instr{Op: api.OpXor, Rd: 17, Rs1: 23, Rs2: 8}, 0x008bc8b3, "xor x17,x23,x8"},
	{api.Instr{Op: api.OpSrl, Rd: 17, Rs1: 25, Rs2: 7}, 0x007cd8b3, "srl x17,x25,x7"},
	{api.Instr{Op: api.OpSra, Rd: 1, Rs1: 1, Rs2: 24}, 0x4180d0b3, "sra x1,x1,x24"},
	{api.Instr{Op: api.OpOr, Rd: 17, Rs1: 10, Rs2: 23}, 0x017568b3, "or x17,x10,x23"},
	{api.Instr{Op: api.OpAnd, Rd: 27, Rs1: 5, Rs2: 1}, 0x0012fdb3, "and x27,x5,x1"},
	{api.Instr{Op: api.OpAddw, Rd: 20, Rs1: 8, Rs2: 23}, 0x01740a3b, "addw x20,x8,x23"},
	{api.Instr{Op: api.OpSubw, Rd: 9, Rs1: 12, Rs2: 31}, 0x41f604bb, "subw x9,x12,x31"},
	{api.Instr{Op: api.OpSllw, Rd: 1, Rs1: 11, Rs2: 13}, 0x00d590bb, "sllw x1,x11,x13"},
	{api.Instr{Op: api.OpSrlw, Rd: 27, Rs1: 3, Rs2: 5}, 0x0051ddbb, "srlw x27,x3,x5"},
	{api.Instr{Op: api.OpSraw, Rd: 19, Rs1: 31, Rs2: 17}, 0x411fd9bb, "sraw x19,x31,x17"},
	{api.Instr{Op: api.OpMul, Rd: 27, Rs1: 27, Rs2: 23}, 0x037d8db3, "mul x27,x27,x23"},
	{api.Instr{Op: api.OpMulh, Rd: 21, Rs1: 12, Rs2: 31}, 0x03f61ab3, "mulh x21,x12,x31"},
	{api.Instr{Op: api.OpMulhsu, Rd: 1, Rs1: 15, Rs2: 26}, 0x03a7a0b3, "mulhsu x1,x15,x26"},
	{api.Instr{Op: api.OpMulhu, Rd: 24, Rs1: 25, Rs2: 7}, 0x027cbc33, "mulhu x24,x25,x7"},
	{api.Instr{Op: api.OpDiv, Rd: 20, Rs1: 21, Rs2: 21}, 0x035aca33, "div x20,x21,x21"},
	{api.Instr{Op: api.OpDivu, Rd: 16, Rs1: 2, Rs2: 16}, 0x03015833, "divu x16,x2,x16"},
	{api.Instr{Op: api.OpRem, Rd: 15, Rs1: 25, Rs2: 4}, 0x024ce7b3, "rem x15,x25,x4"},
	{api.Instr{Op: api.OpRemu, Rd: 27, Rs1: 17, Rs2: 31}, 0x03f8fdb3, "remu x27,x17,x31"},
	{api.Instr{Op: api.OpMulw, Rd: 24, Rs1: 17, Rs2: 9}, 0x02988c3b, "mulw x24,x17,x9"},
	{api.Instr{Op: api.OpDivw, Rd: 13, Rs1: 1, Rs2: 6}, 0x0260c6bb, "divw x13,x1,x6"},
	{api.Instr{Op: api.OpDivuw, Rd: 13, Rs1: 11, Rs2: 4}, 0x0245d6bb, "divuw x13,x11,x4"},
	{api.Instr{Op: api.OpRemw, Rd: 29, Rs1: 24, Rs2: 10}, 0x02ac6ebb, "remw x29,x24,x10"},
	{api.Instr{Op: api.OpRemuw, Rd: 25, Rs1: 9, Rs2: 28}, 0x03c4fcbb, "remuw x25,x9,x28"},
	{api.Instr{Op: api.OpFence}, 0x0000000f, "fence"},
	{api.Instr{Op: api.OpEcall}, 0x00000073, "ecall"},
	{api.Instr{Op: api.OpEbreak}, 0x00100073, "ebreak"},
}

// examples are those of the chapter, and the ends of the forms' numbers.
var examples = []sample{
	{api.Instr{Op: api.OpAddi, Rd: 1, Rs1: 2, Imm: -3}, 0xffd10093, "addi x1,x2,-3"},
	{api.Instr{Op: api.OpAdd, Rd: 3, Rs1: 4, Rs2: 5}, 0x005201b3, "add x3,x4,x5"},
	{api.Instr{Op: api.OpBeq, Rs1: 1, Rs2: 2, Imm: 8}, 0x00208463, "beq x1,x2,8"},
	{api.Instr{Op: api.OpJal, Rd: 1, Imm: -4}, 0xffdff0ef, "jal x1,-4"},
	{api.Instr{Op: api.OpSd, Rs1: 2, Rs2: 6, Imm: 16}, 0x00613823, "sd x6,16(x2)"},
	{api.Instr{Op: api.OpSrai, Rd: 1, Rs1: 1, Imm: 63}, 0x43f0d093, "srai x1,x1,63"},
	{api.Instr{Op: api.OpLd, Rd: 5, Rs1: 2, Imm: 8}, 0x00813283, "ld x5,8(x2)"},
	{api.Instr{Op: api.OpAddi}, 0x00000013, "addi x0,x0,0"},
	{api.Instr{Op: api.OpAddi, Rd: 31, Rs1: 31, Imm: -2048}, 0x800f8f93, "addi x31,x31,-2048"},
	{api.Instr{Op: api.OpAddi, Rd: 31, Rs1: 31, Imm: 2047}, 0x7fff8f93, "addi x31,x31,2047"},
	{api.Instr{Op: api.OpLui, Rd: 1, Imm: -524288}, 0x800000b7, "lui x1,-524288"},
	{api.Instr{Op: api.OpLui, Rd: 1, Imm: 524287}, 0x7ffff0b7, "lui x1,524287"},
	{api.Instr{Op: api.OpJal, Imm: -1048576}, 0x8000006f, "jal x0,-1048576"},
	{api.Instr{Op: api.OpJal, Imm: 1048574}, 0x7ffff06f, "jal x0,1048574"},
	{api.Instr{Op: api.OpJal, Imm: 2048}, 0x0010006f, "jal x0,2048"},
	{api.Instr{Op: api.OpBne, Imm: -4096}, 0x80001063, "bne x0,x0,-4096"},
	{api.Instr{Op: api.OpBne, Imm: 4094}, 0x7e001fe3, "bne x0,x0,4094"},
	{api.Instr{Op: api.OpBne, Imm: 2048}, 0x000010e3, "bne x0,x0,2048"},
	{api.Instr{Op: api.OpSb, Rs1: 31, Imm: -2048}, 0x800f8023, "sb x0,-2048(x31)"},
	{api.Instr{Op: api.OpSb, Rs2: 31, Imm: 2047}, 0x7ff00fa3, "sb x31,2047(x0)"},
	{api.Instr{Op: api.OpSraiw, Rd: 1, Rs1: 1, Imm: 31}, 0x41f0d09b, "sraiw x1,x1,31"},
}

// form is what the chapter says of a form: which registers it names, its number's ends and step.
type form struct {
	rd, rs1, rs2    bool
	low, high, step int64
}

func formFor(op int) form {
	name := strings.Fields(allNames)[op-1]
	in := func(l string) bool { return strings.Contains(" "+l+" ", " "+name+" ") }
	switch {
	case in("lui auipc"):
		return form{true, false, false, -524288, 524287, 1}
	case in("jal"):
		return form{true, false, false, -1048576, 1048574, 2}
	case in("beq bne blt bge bltu bgeu"):
		return form{false, true, true, -4096, 4094, 2}
	case in("sb sh sw sd"):
		return form{false, true, true, -2048, 2047, 1}
	case in("jalr lb lh lw ld lbu lhu lwu addi slti sltiu xori ori andi addiw"):
		return form{true, true, false, -2048, 2047, 1}
	case in("slli srli srai"):
		return form{true, true, false, 0, 63, 1}
	case in("slliw srliw sraiw"):
		return form{true, true, false, 0, 31, 1}
	case in("fence ecall ebreak"):
		return form{false, false, false, 0, 0, 1}
	}
	return form{true, true, true, 0, 0, 1}
}

// 1.1: each operation's word and name; 1.2: its text; 1.3: there and back.
func TestEachOperation(t *testing.T) {
	l := strings.Fields(allNames)
	if len(samples) != 65 || len(l) != 65 {
		t.Fatal(len(samples), len(l))
	}
	for k, s := range samples {
		if s.i.Op != k+1 || Name(s.i.Op) != l[k] {
			t.Errorf("%v: %d is named %q", s.i, k+1, Name(s.i.Op))
		}
	}
	for _, s := range append(append([]sample{}, samples...), examples...) {
		if e := Check(s.i); e != api.OK {
			t.Errorf("Check(%v): %v", s.i, e)
		}
		if w, e := Encode(s.i); w != s.word || e != api.OK {
			t.Errorf("Encode(%v): %08x, %v", s.i, w, e)
		}
		if i, e := Decode(s.word); i != s.i || e != api.OK {
			t.Errorf("Decode(%08x): %v, %v", s.word, i, e)
		}
		if x, e := Text(s.i); x != s.text || e != api.OK {
			t.Errorf("Text(%v): %q, %v", s.i, x, e)
		}
	}
}

// 1.1: numbers that are no operation's have no name.
func TestNamesOfNone(t *testing.T) {
	for _, op := range []int{0, -1, 66, 67, 1000, math.MinInt, math.MaxInt} {
		if s := Name(op); s != "" {
			t.Errorf("Name(%d): %q", op, s)
		}
	}
}

func wantRight(t *testing.T, i api.Instr) {
	t.Helper()
	w, e := Encode(i)
	if Check(i) != api.OK || e != api.OK {
		t.Errorf("%v: Check %v, Encode %v", i, Check(i), e)
	}
	if j, e := Decode(w); i != j || e != api.OK {
		t.Errorf("%v: Decode of its word is %v, %v", i, j, e)
	}
}

// wantWrong holds all calls to ErrInstr, with zero values beside it (R4).
func wantWrong(t *testing.T, i api.Instr) {
	t.Helper()
	w, e1 := Encode(i)
	s, e2 := Text(i)
	l, e3 := Reads(i)
	r, e4 := Writes(i)
	if w != 0 || s != "" || len(l) != 0 || r != 0 {
		t.Errorf("%v: beside an error: %x, %q, %v, %d", i, w, s, l, r)
	}
	for _, e := range []api.Errno{Check(i), e1, e2, e3, e4} {
		if e != api.ErrInstr {
			t.Errorf("%v: %v", i, e)
		}
	}
}

// 1.1: each form's numbers, at both ends and one beyond.
func TestEndsOfNumbers(t *testing.T) {
	for _, s := range samples {
		f := formFor(s.i.Op)
		for _, n := range []int64{f.low, f.high, 0} {
			i := s.i
			i.Imm = n
			wantRight(t, i)
		}
		wrong := []int64{f.low - 1, f.high + 1, f.low - f.step, f.high + f.step, math.MinInt64, math.MaxInt64, f.high + 1<<32, f.low - 1<<32}
		if f.step == 2 {
			wrong = append(wrong, 1, -1, f.low+1, f.high-1)
		}
		for _, n := range wrong {
			i := s.i
			i.Imm = n
			wantWrong(t, i)
		}
	}
}

// 1.1: registers that a form names are 0 to 31, all others 0.
func TestRegisters(t *testing.T) {
	for _, s := range samples {
		f := formFor(s.i.Op)
		for k, named := range []bool{f.rd, f.rs1, f.rs2} {
			for _, r := range []int{0, 1, 31, -1, 32, 64, 1 << 32, math.MinInt, math.MaxInt} {
				i := s.i
				*[]*int{&i.Rd, &i.Rs1, &i.Rs2}[k] = r
				if r == 0 || named && r > 0 && r <= 31 {
					wantRight(t, i)
				} else {
					wantWrong(t, i)
				}
			}
		}
	}
}

// 1.1: an Op that is none.
func TestWrongOperations(t *testing.T) {
	for _, op := range []int{0, -1, 66, 128 + api.OpAddi, 1<<32 + api.OpAddi, math.MinInt, math.MaxInt} {
		wantWrong(t, api.Instr{Op: op})
	}
}

// listed tells whether a word is some instruction's, by the chapter's table.
func listed(w uint32) bool {
	f3, f7, f6 := w>>12&7, w>>25, w>>26
	switch w & 0x7f {
	case 0x37, 0x17, 0x6f:
		return true
	case 0x67:
		return f3 == 0
	case 0x63:
		return f3 != 2 && f3 != 3
	case 0x03:
		return f3 != 7
	case 0x23:
		return f3 <= 3
	case 0x13:
		return f3 != 1 && f3 != 5 || f6 == 0 || f3 == 5 && f6 == 16
	case 0x1b:
		return f3 == 0 || (f3 == 1 || f3 == 5) && f7 == 0 || f3 == 5 && f7 == 32
	case 0x33:
		return f7 == 0 || f7 == 1 || f7 == 32 && (f3 == 0 || f3 == 5)
	case 0x3b:
		return f7 == 0 && (f3 == 0 || f3 == 1 || f3 == 5) || f7 == 32 && (f3 == 0 || f3 == 5) || f7 == 1 && (f3 == 0 || f3 >= 4)
	}
	return w == 0xf || w == 0x73 || w == 0x100073
}

func lookAtWord(t *testing.T, w uint32) {
	t.Helper()
	i, e := Decode(w)
	if !listed(w) {
		if e != api.ErrWord || i != (api.Instr{}) {
			t.Errorf("Decode(%08x): %v, %v", w, i, e)
		}
		return
	}
	if e != api.OK || Check(i) != api.OK {
		t.Errorf("Decode(%08x): %v, %v", w, i, e)
	}
	if v, e := Encode(i); v != w || e != api.OK {
		t.Errorf("Encode of Decode(%08x): %08x, %v", w, v, e)
	}
}

// 1.1, 1.3, P9: all opcodes with all of funct3 and funct7, and what is beside them none, all, or mixed.
func TestAllOpcodes(t *testing.T) {
	for k := range uint32(1 << 17) {
		w := k&0x7f | k>>7&7<<12 | k>>10<<25
		for _, rest := range []uint32{0, 0x01ff8f80, 0x00100000, 0x01000000, 0x00008000, 0x00000080, 0x00a50500} {
			lookAtWord(t, w|rest)
		}
	}
}

// 1.3, P9: words at random, each bit of the words that are an operation's turned, and the empty word.
func TestWordsThereAndBack(t *testing.T) {
	r := rand.New(rand.NewSource(1))
	for range 300000 {
		lookAtWord(t, r.Uint32())
	}
	for _, s := range samples {
		for b := range 32 {
			lookAtWord(t, s.word^1<<b)
		}
	}
	for _, w := range []uint32{0, 0xffffffff, 0x0ff0000f, 0x200073, 0x173, 0x8073, 0x1073, 0x8f, 0x100f, 0x4001501b | 1<<25} {
		lookAtWord(t, w)
	}
}

// 1.3, P9: right instructions at random; no two of them have one word.
func TestInstructionsThereAndBack(t *testing.T) {
	r := rand.New(rand.NewSource(2))
	words := map[uint32]api.Instr{}
	for range 200000 {
		i := api.Instr{Op: 1 + r.Intn(65)}
		f := formFor(i.Op)
		for k, named := range []bool{f.rd, f.rs1, f.rs2} {
			if named {
				*[]*int{&i.Rd, &i.Rs1, &i.Rs2}[k] = r.Intn(32)
			}
		}
		i.Imm = f.low + f.step*r.Int63n((f.high-f.low)/f.step+1)
		wantRight(t, i)
		w, _ := Encode(i)
		if j, there := words[w]; there && i != j {
			t.Errorf("%v and %v are both %08x", i, j, w)
		}
		words[w] = i
	}
}

// 1.2: what is read and written.
func TestReadsAndWrites(t *testing.T) {
	for _, c := range []struct {
		i      api.Instr
		reads  []int
		writes int
	}{
		{api.Instr{Op: api.OpAdd, Rd: 3, Rs1: 5, Rs2: 4}, []int{4, 5}, 3},
		{api.Instr{Op: api.OpAdd, Rd: 3, Rs1: 4, Rs2: 5}, []int{4, 5}, 3},
		{api.Instr{Op: api.OpAdd, Rd: 3, Rs1: 4, Rs2: 4}, []int{4}, 3},
		{api.Instr{Op: api.OpAdd, Rd: 3, Rs1: 0, Rs2: 4}, []int{4}, 3},
		{api.Instr{Op: api.OpAdd, Rd: 3, Rs1: 4, Rs2: 0}, []int{4}, 3},
		{api.Instr{Op: api.OpAdd, Rd: 0}, []int{}, 0},
		{api.Instr{Op: api.OpMulw, Rd: 31, Rs1: 31, Rs2: 30}, []int{30, 31}, 31},
		{api.Instr{Op: api.OpSd, Rs1: 2, Rs2: 6}, []int{2, 6}, 0},
		{api.Instr{Op: api.OpSd, Rs1: 6, Rs2: 2}, []int{2, 6}, 0},
		{api.Instr{Op: api.OpBltu, Rs1: 9, Rs2: 8, Imm: 8}, []int{8, 9}, 0},
		{api.Instr{Op: api.OpLd, Rd: 7, Rs1: 8}, []int{8}, 7},
		{api.Instr{Op: api.OpJalr, Rd: 1, Rs1: 5}, []int{5}, 1},
		{api.Instr{Op: api.OpJal, Rd: 1}, []int{}, 1},
		{api.Instr{Op: api.OpLui, Rd: 4}, []int{}, 4},
		{api.Instr{Op: api.OpSrai, Rd: 4, Rs1: 3, Imm: 9}, []int{3}, 4},
		{api.Instr{Op: api.OpEcall}, []int{10, 17}, 10},
		{api.Instr{Op: api.OpEbreak}, []int{}, 0},
		{api.Instr{Op: api.OpFence}, []int{}, 0},
	} {
		if l, e := Reads(c.i); !reflect.DeepEqual(append([]int{}, l...), c.reads) || e != api.OK {
			t.Errorf("Reads(%v): %v, %v", c.i, l, e)
		}
		if r, e := Writes(c.i); r != c.writes || e != api.OK {
			t.Errorf("Writes(%v): %d, %v", c.i, r, e)
		}
	}
}

// R3: an answer is new memory, spare room too.
func TestReadsAreNew(t *testing.T) {
	for _, s := range samples {
		a, _ := Reads(s.i)
		want := append([]int{}, a...)
		for k := range a[:cap(a)] {
			a[:cap(a)][k] = -1
		}
		if b, _ := Reads(s.i); !reflect.DeepEqual(append([]int{}, b...), want) {
			t.Errorf("Reads(%v): %v, then %v", s.i, want, b)
		}
	}
}

// P1, R6: no call panics, and each tells the same twice, whatever it is given.
func TestAnyInstruction(t *testing.T) {
	r := rand.New(rand.NewSource(3))
	any := func() int {
		return []int{0, 1, 31, 32, -1, r.Intn(70), r.Int(), -r.Int(), math.MinInt, math.MaxInt}[r.Intn(10)]
	}
	for range 100000 {
		i := api.Instr{Op: r.Intn(70) - 2, Rd: any(), Rs1: any(), Rs2: any(), Imm: int64(any())}
		w, e := Encode(i)
		v, f := Encode(i)
		if w != v || e != f || e != Check(i) {
			t.Errorf("Encode(%v): %x, %v; then %x, %v", i, w, e, v, f)
		}
		if e != api.OK {
			wantWrong(t, i)
		} else {
			wantRight(t, i)
		}
	}
}
