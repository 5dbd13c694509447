package emit

import (
	"slices"

	"patina/api"
	"patina/color"
	"patina/live"
)

// The machine's registers that are no places.
const (
	zero     = 0  // always 0
	way      = 1  // where a function goes back to
	stack    = 2  // the stack's top
	limit    = 3  // the stack's limit
	scratch  = 5  // what comes from a slot or goes to one, or is out of the way while others move
	far      = 6  // addresses that no instruction reaches; the assembler uses it in far jumps, so nothing stays in it
	scratch2 = 7  // the second one that comes from a slot
	argument = 10 // the first argument, and the answer
	service  = 17 // what ecall shall do
)

// passing and kept are where a colour stands: in a register that calls may change, if none of its registers is live across a call, else in one that they keep.
var (
	passing = [color.Colors]int{10, 11, 12, 13, 14, 15, 16, 17, 28, 29, 30, 31}
	kept    = [color.Colors]int{8, 9, 18, 19, 20, 21, 22, 23, 24, 25, 26, 27}
)

const (
	wordSize = 8
	evenness = 16 // of the stack's top
)

// plan is where a function's registers stand, and its frame: from the stack's top on the saved registers, the slots, the words that it asks for.
type plan struct {
	places    []int
	registers [color.Colors]int // the machine's register of each colour
	saved     []int             // those that are saved in the frame
	slots     int               // how far the slots are from the stack's top
	words     int               // how far its words are
	size      int               // bytes of it all
}

func planOf(f api.LFn, places []int) plan {
	p := plan{places: places, registers: passing}
	if slices.ContainsFunc(f.Blocks, hasCall) {
		p.saved = append(p.saved, way)
	}
	for _, c := range colorsAcross(f, places) {
		p.registers[c] = kept[c]
		p.saved = append(p.saved, kept[c])
	}
	p.slots = wordSize * len(p.saved)
	p.words = p.slots + wordSize*color.Slots(places)
	end := p.words + wordSize*f.Frame
	p.size = (end + evenness - 1) / evenness * evenness
	return p
}

func hasCall(b api.LBlock) bool {
	return slices.ContainsFunc(b.Ins, func(i api.LIns) bool { return i.Op == api.LCall })
}

// colorsAcross are the colours of registers that are live across a call, rising.
func colorsAcross(f api.LFn, places []int) []int {
	across, _ := live.Across(f)
	var l []int
	for _, r := range across {
		if places[r] >= 0 {
			l = append(l, places[r])
		}
	}
	slices.Sort(l)
	return slices.Compact(l)
}

// register is the machine's register in which a register stands; false: it has a slot.
func (p plan) register(r int) (int, bool) {
	if c := p.places[r]; c >= 0 {
		return p.registers[c], true
	}
	return 0, false
}

// slot is how far a register's slot is from the stack's top.
func (p plan) slot(r int) int { return p.slots + wordSize*(-1-p.places[r]) }
