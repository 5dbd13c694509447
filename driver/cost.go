package driver

import (
	"patina/api"
	"patina/elf"
)

// perInstruction is how often any instruction is done at most while a source takes a step. Between two of its steps a function's code goes no ring, so what is done more than once is what the runtime or a frame's beginning goes round in: the most is one word after the other of lir.MaxFrame; or the free words of each of rt.MaxBlocks parts of the heap, halved six times; or what drops a value without Boxes, of at most MaxWords words, that lie as deep as MaxItems types. A call takes a step, so its way back is no more than twice as much; the rest is spare.
const perInstruction = 1 << 14

// wordSize is how many bytes an instruction has.
const wordSize = 4

// Cost is a number of machine's steps that one step of a source never needs more of, for an image.
func Cost(image []byte) (int, api.Errno) {
	i, e, _ := elf.Read(image)
	if e != api.OK {
		return 0, e
	}
	instructions := 0
	for _, s := range i.Segments {
		if s.Perm&api.PermExec != 0 {
			instructions += len(s.Bytes) / wordSize
		}
	}
	return instructions * perInstruction, api.OK
}
