package rv

import "patina/api"

// names are the operations' names.
var names = [...]string{
	api.OpLui: "lui", api.OpAuipc: "auipc", api.OpJal: "jal", api.OpJalr: "jalr",
	api.OpBeq: "beq", api.OpBne: "bne", api.OpBlt: "blt", api.OpBge: "bge", api.OpBltu: "bltu", api.OpBgeu: "bgeu",
	api.OpLb: "lb", api.OpLh: "lh", api.OpLw: "lw", api.OpLd: "ld", api.OpLbu: "lbu", api.OpLhu: "lhu", api.OpLwu: "lwu",
	api.OpSb: "sb", api.OpSh: "sh", api.OpSw: "sw", api.OpSd: "sd",
	api.OpAddi: "addi", api.OpSlti: "slti", api.OpSltiu: "sltiu", api.OpXori: "xori", api.OpOri: "ori", api.OpAndi: "andi",
	api.OpSlli: "slli", api.OpSrli: "srli", api.OpSrai: "srai",
	api.OpAddiw: "addiw", api.OpSlliw: "slliw", api.OpSrliw: "srliw", api.OpSraiw: "sraiw",
	api.OpAdd: "add", api.OpSub: "sub", api.OpSll: "sll", api.OpSlt: "slt", api.OpSltu: "sltu",
	api.OpXor: "xor", api.OpSrl: "srl", api.OpSra: "sra", api.OpOr: "or", api.OpAnd: "and",
	api.OpAddw: "addw", api.OpSubw: "subw", api.OpSllw: "sllw", api.OpSrlw: "srlw", api.OpSraw: "sraw",
	api.OpMul: "mul", api.OpMulh: "mulh", api.OpMulhsu: "mulhsu", api.OpMulhu: "mulhu",
	api.OpDiv: "div", api.OpDivu: "divu", api.OpRem: "rem", api.OpRemu: "remu",
	api.OpMulw: "mulw", api.OpDivw: "divw", api.OpDivuw: "divuw", api.OpRemw: "remw", api.OpRemuw: "remuw",
	api.OpFence: "fence", api.OpEcall: "ecall", api.OpEbreak: "ebreak",
}

// fixed are the operations' words without registers and numbers: opcode, funct3 and funct7 where they stand.
var fixed = [...]uint32{
	api.OpLui: 0x37, api.OpAuipc: 0x17, api.OpJal: 0x6f, api.OpJalr: 0x67,
	api.OpBeq: 0x0063, api.OpBne: 0x1063, api.OpBlt: 0x4063, api.OpBge: 0x5063, api.OpBltu: 0x6063, api.OpBgeu: 0x7063,
	api.OpLb: 0x0003, api.OpLh: 0x1003, api.OpLw: 0x2003, api.OpLd: 0x3003, api.OpLbu: 0x4003, api.OpLhu: 0x5003, api.OpLwu: 0x6003,
	api.OpSb: 0x0023, api.OpSh: 0x1023, api.OpSw: 0x2023, api.OpSd: 0x3023,
	api.OpAddi: 0x0013, api.OpSlti: 0x2013, api.OpSltiu: 0x3013, api.OpXori: 0x4013, api.OpOri: 0x6013, api.OpAndi: 0x7013,
	api.OpSlli: 0x1013, api.OpSrli: 0x5013, api.OpSrai: 0x40005013,
	api.OpAddiw: 0x001b, api.OpSlliw: 0x101b, api.OpSrliw: 0x501b, api.OpSraiw: 0x4000501b,
	api.OpAdd: 0x0033, api.OpSub: 0x40000033, api.OpSll: 0x1033, api.OpSlt: 0x2033, api.OpSltu: 0x3033,
	api.OpXor: 0x4033, api.OpSrl: 0x5033, api.OpSra: 0x40005033, api.OpOr: 0x6033, api.OpAnd: 0x7033,
	api.OpAddw: 0x003b, api.OpSubw: 0x4000003b, api.OpSllw: 0x103b, api.OpSrlw: 0x503b, api.OpSraw: 0x4000503b,
	api.OpMul: 0x02000033, api.OpMulh: 0x02001033, api.OpMulhsu: 0x02002033, api.OpMulhu: 0x02003033,
	api.OpDiv: 0x02004033, api.OpDivu: 0x02005033, api.OpRem: 0x02006033, api.OpRemu: 0x02007033,
	api.OpMulw: 0x0200003b, api.OpDivw: 0x0200403b, api.OpDivuw: 0x0200503b, api.OpRemw: 0x0200603b, api.OpRemuw: 0x0200703b,
	api.OpFence: 0x0000000f, api.OpEcall: 0x00000073, api.OpEbreak: 0x00100073,
}

// candidates are the first and the last of the operations that a word may be of, by its opcode and what tells families with one opcode apart: a machine decodes at each step, so that Decode must not go through all operations.
func candidates(w uint32) (first, last int) {
	product := part(w, 25, 7, 0) == 1
	shift := part(w, 12, 2, 0) == 1 // funct3 is 1 or 5
	switch opcode := part(w, 0, 7, 0); {
	case opcode == 0x37 || opcode == 0x17:
		return api.OpLui, api.OpAuipc
	case opcode == 0x6f:
		return api.OpJal, api.OpJal
	case opcode == 0x67:
		return api.OpJalr, api.OpJalr
	case opcode == 0x63:
		return api.OpBeq, api.OpBgeu
	case opcode == 0x03:
		return api.OpLb, api.OpLwu
	case opcode == 0x23:
		return api.OpSb, api.OpSd
	case opcode == 0x13 && shift:
		return api.OpSlli, api.OpSrai
	case opcode == 0x13:
		return api.OpAddi, api.OpAndi
	case opcode == 0x1b:
		return api.OpAddiw, api.OpSraiw
	case opcode == 0x33 && product:
		return api.OpMul, api.OpRemu
	case opcode == 0x33:
		return api.OpAdd, api.OpAnd
	case opcode == 0x3b && product:
		return api.OpMulw, api.OpRemuw
	case opcode == 0x3b:
		return api.OpAddw, api.OpSraw
	}
	return api.OpFence, api.OpEbreak
}
