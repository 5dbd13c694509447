package isel

import "patina/api"

// checks is what must be looked at ahead of what can be seen, or may be done just because the program has not ended: whether something went over, or was divided by nought. A function looks for all that it did since it last looked.
type checks struct {
	byCalls          bool // a helper looks
	over, nought     int  // registers: below 0, if something went over; not 0, if something was divided by nought, and nothing went over ahead of that
	isOver, isNought bool // whether they may be so
	overTrap         int  // labels of the program's ends, where they are needed
	noughtTrap       int
	eitherTrap       int
}

func noChecks() checks { return checks{overTrap: none, noughtTrap: none, eitherTrap: none} }

// noteOver notes that something went over, if a register is below 0.
func (w *function) noteOver(r int) {
	w.noteIn(w.over, r, &w.isOver)
}

// noteNought notes that something was divided by nought, if a register is not 0.
func (w *function) noteNought(r int) {
	if w.isOver { // that would have ended the program first
		r = w.binary("and", r, w.binary("sltu", w.wentOver(), w.constant(1)))
	}
	w.noteIn(w.nought, r, &w.isNought)
}

func (w *function) noteIn(note, r int, is *bool) {
	if *is {
		w.put(api.LIns{Op: api.LBin, D: note, A: note, B: r, Name: "or"})
	} else {
		w.move(note, r)
	}
	*is = true
}

// wentOver is a register that is 1, if something went over, else 0.
func (w *function) wentOver() int { return w.binary("slt", w.over, w.constant(0)) }

// look looks at all that was noted; what follows is done if it was nothing.
func (w *function) look() {
	switch {
	case !w.isOver && !w.isNought:
	case w.byCalls:
		w.help(none, w.helper(toCheck, "", (*writer).checker), w.noted(w.over, w.isOver), w.noted(w.nought, w.isNought))
		w.isOver, w.isNought = false, false
	default:
		here := w.label()
		w.lookOnTo(here)
		w.stand(here)
	}
}

// lookOnTo looks at all that was noted, and goes on to a label, if it was nothing.
func (w *function) lookOnTo(to int) {
	if w.byCalls {
		w.look()
	}
	isOver, isNought := w.isOver, w.isNought
	w.isOver, w.isNought = false, false
	switch {
	case !isOver && !isNought:
		w.jump(to)
	case !isNought:
		w.branch(w.wentOver(), w.needed(&w.overTrap), to)
	case !isOver:
		w.branch(w.nought, w.needed(&w.noughtTrap), to)
	default:
		w.branch(w.binary("or", w.wentOver(), w.nought), w.needed(&w.eitherTrap), to)
	}
}

// noted is a register in which something may have been noted, or one that is 0.
func (w *function) noted(r int, is bool) int {
	if is {
		return r
	}
	return w.constant(0)
}

// needed is a label that is needed.
func (w *function) needed(label *int) int {
	if *label == none {
		*label = w.label()
	}
	return *label
}

// writeTraps writes the ends of the program that are needed.
func (w *function) writeTraps() {
	if w.eitherTrap != none {
		w.stand(w.eitherTrap)
		w.branch(w.nought, w.needed(&w.noughtTrap), w.needed(&w.overTrap))
	}
	w.writeTrap(w.overTrap, api.ExitOverflow)
	w.writeTrap(w.noughtTrap, api.ExitDivide)
}

func (w *writer) writeTrap(label, code int) {
	if label != none {
		w.stand(label)
		w.end(api.LIns{Op: api.LTrap, N: int64(code)})
	}
}

// checker writes the helper that ends the program, if its first argument is below 0, or its second one is not 0; first that of the second one.
func (w *writer) checker(_ string, start int) {
	const over, nought = 0, 1
	first, second, overTrap, back := w.label(), w.label(), w.label(), w.label()
	w.stand(start)
	w.branch(nought, first, second)
	w.writeTrap(first, api.ExitDivide)
	w.stand(second)
	w.branch(w.binary("slt", over, w.constant(0)), overTrap, back)
	w.writeTrap(overTrap, api.ExitOverflow)
	w.back(back)
}
