package asm

import (
	"slices"

	"patina/api"
)

// none stands for a label's place where an item asks for none.
const none = -1

// unit is by how many bytes an item that does not reach grows, and what all of those with several sizes take at first.
const unit = 4

// layout is where items stand: the text's, then the data's.
type layout struct {
	text, data []api.Item
	goals      []int    // of each of the text's items: the place of the label that it asks for
	sizes      []int    // of all items
	places     []uint64 // of all items, as they were with the least sizes
	several    []int    // the text's items that have several sizes
	added      sums     // what the text's items have grown by
}

// placed is a layout in which all sizes are the least.
func placed(text, data []api.Item, at, dataAt uint64, goals []int) *layout {
	n := len(text) + len(data)
	l := &layout{text: text, data: data, goals: goals, sizes: make([]int, n), places: make([]uint64, n), added: make(sums, len(text)+1)}
	for k := range n {
		if k == len(text) {
			at = dataAt
		}
		x, _ := one(text, data, k)
		l.places[k], l.sizes[k] = at, least(x)
		at += uint64(l.sizes[k])
		if greatest(x.Kind) > 0 {
			l.several = append(l.several, k)
		}
	}
	return l
}

// least is how many bytes an item takes, at first.
func least(x api.Item) int {
	switch x.Kind {
	case api.ItInstr, api.ItJump, api.ItCall, api.ItBranch:
		return unit
	case api.ItLi:
		return 4 * len(loading(x.I.Rd, x.I.Imm))
	case api.ItLa, api.ItWord:
		return 8
	case api.ItSpace:
		return int(x.I.Imm)
	}
	return 0
}

// greatest is the greatest size of items of a kind that has several; 0, if it has one.
func greatest(kind int) int {
	n := 0
	switch kind {
	case api.ItBranch:
		n = unit // the branch that is turned about, ahead of a jump
		fallthrough
	case api.ItJump, api.ItCall:
		n += 2 * unit
	}
	return n
}

// address is where an item stands with the sizes as they are.
func (l *layout) address(k int) uint64 {
	if k < len(l.text) {
		return l.places[k] + uint64(l.added.ahead(k))
	}
	return l.places[k]
}

// distance is how far one of the text's items is from the label that it asks for.
func (l *layout) distance(k int) int64 {
	return int64(l.address(l.goals[k]) - l.address(k))
}

// short tells whether an item does not reach its label with its size.
func (l *layout) short(k int) bool {
	return l.goals[k] != none && !reaches(l.text[k].Kind, l.sizes[k], l.distance(k))
}

// settle gives all items their sizes.
//
// The chapter asks for rounds, in each of which all items grow that are too short as they stand at its beginning. Two of them are done so: a label of the data comes nearer as the text ahead of an item grows, so that it matters when that item is looked at. An item that still reaches such a label with its size behind the second round can only come to stand too far behind it; so from there on, whatever is too short stays so until it grows itself, and the sizes at the end are the same in whatever order items grow. Sweeps, in which each item sees at once what those ahead of it in the sweep have grown, are done after a few, where rounds may be as many as there are items.
func (l *layout) settle() {
	l.round()
	l.round()
	for l.sweep() {
		slices.Reverse(l.several)
	}
}

// round lets all items grow that are too short as all stand now.
func (l *layout) round() {
	var growing []int
	for _, k := range l.several {
		if l.grows(k) {
			growing = append(growing, k)
		}
	}
	for _, k := range growing {
		l.grow(k)
	}
}

// sweep lets one item after the other grow until it reaches, and tells whether one did grow.
func (l *layout) sweep() bool {
	grown := false
	for _, k := range l.several {
		for l.grows(k) {
			l.grow(k)
			grown = true
		}
	}
	return grown
}

// grows tells whether an item is too short, and has a next size.
func (l *layout) grows(k int) bool {
	return l.sizes[k] < greatest(l.text[k].Kind) && l.short(k)
}

// grow gives an item its next size.
func (l *layout) grow(k int) {
	l.sizes[k] += unit
	l.added.add(k, unit)
}

// far is the first item that reaches its label with no size.
func (l *layout) far() (int, bool) {
	for k := range l.text {
		if l.short(k) {
			return k, true
		}
	}
	return 0, false
}

// reaches tells whether an item of a size can go a distance from its own place.
func reaches(kind, size int, distance int64) bool {
	if kind == api.ItLa {
		return farRight(distance)
	}
	if distance%2 != 0 {
		return false
	}
	switch {
	case kind == api.ItBranch && size == unit:
		return distance >= -1<<12 && distance < 1<<12
	case kind == api.ItBranch:
		// Its jump stands behind the branch that is turned about.
		distance, size = distance-unit, size-unit
		fallthrough
	default:
		if size == unit {
			return distance >= -1<<20 && distance < 1<<20
		}
		return farRight(distance)
	}
}

// farRight tells whether auipc, with what is added behind it, can go a distance.
func farRight(distance int64) bool {
	high, _ := halves(distance)
	return high >= -1<<19 && high < 1<<19
}

// halves are what auipc adds, in units of 4096, and what is left to add to that.
func halves(distance int64) (high, low int64) {
	high = (distance + 2048) >> 12
	return high, distance - high<<12
}
