package loans

import (
	"slices"

	"patina/api"
	"patina/flow"
	"patina/types"
)

// local is the number of a local, which is an origin, if its type is a reference.
type local int

// loan is the number of a loan.
type loan int

// Where there is no local, and no loan.
const (
	noLocal local = -1
	noLoan  loan  = -1
)

// function is a function whose loans are looked at.
type function struct {
	fn      api.MFn
	next    [][]int
	order   []int // all blocks, first those to which a way leads, each ahead of what comes behind it, but for rings
	reached int   // to so many of these a way leads
	loans   []api.Loan
	lent    relation[local, loan] // of each local the loans of its places
	steps   [][]step              // of each block, point by point
	live    []set[local]          // origins, at the beginnings of blocks
}

// step is what stands at a point, as far as origins and their loans go.
type step struct {
	uses   []local // origins
	sets   local   // the origin that is set
	from   []local // the origins whose loans go to that one, rising
	kills  local   // the local of whose places no loan is held any more
	issued loan
	dies   []local // origins that are used or set here, and are not live behind it in its block
}

func newFunction(f api.MFn) *function {
	x := &function{fn: f, next: flow.NextOf(f.Blocks), loans: loansOf(f.Blocks), lent: relation[local, loan]{}, steps: make([][]step, len(f.Blocks))}
	x.putInOrder()
	for b, block := range f.Blocks {
		for i := range len(block.Stmts) + 1 {
			x.steps[b] = append(x.steps[b], x.stepOf(block, i))
		}
	}
	for k, l := range x.loans {
		x.lent.add(local(l.Place.Local), setOf(loan(k)))
		x.steps[l.Block][l.At].issued = loan(k)
	}
	x.findLive()
	return x
}

func (x *function) putInOrder() {
	x.order = flow.Order(x.next, 0)
	x.reached = len(x.order)
	come := make([]bool, len(x.next))
	for _, b := range x.order {
		come[b] = true
	}
	for b := range x.next {
		if !come[b] {
			x.order = append(x.order, b)
		}
	}
}

// isOrigin tells whether a local is a reference.
func (x *function) isOrigin(l int) bool {
	ref, _ := types.Ref(x.fn.Locals[l].Type)
	return ref
}

// origins are the locals of places that are references, rising, each once.
func (x *function) origins(l []api.Place) []local {
	var found set[local]
	for _, p := range l {
		if x.isOrigin(p.Local) {
			found.put(local(p.Local))
		}
	}
	return slices.Collect(found.all())
}

// stepOf is what stands at a point, but for the loan that it issues, and what dies there.
func (x *function) stepOf(b api.MBlock, i int) step {
	s := step{sets: noLocal, kills: noLocal, issued: noLoan}
	var used []api.Place
	for _, d := range flow.DeedsAt(b, i) {
		if uses(d) {
			used = append(used, d.Place)
		}
		if kills(d) {
			s.kills = local(d.Place.Local)
		}
		if setsWhole(d) && x.isOrigin(d.Place.Local) {
			s.sets = local(d.Place.Local)
			s.from = x.origins(sourcesAt(b, i))
		}
	}
	s.uses = x.origins(used)
	return s
}

// sourcesAt are the places out of which the reference that is set at a point may come.
func sourcesAt(b api.MBlock, i int) []api.Place {
	if i == len(b.Stmts) {
		return placesOf(b.Term.Args)
	}
	r := b.Stmts[i].R
	if len(r.Place.Path) > 0 && r.Place.Path[0] == -1 { // of RRef and RMut; of RUse there is none
		return []api.Place{r.Place}
	}
	return placesOf(r.Args)
}

// placesOf are the places of operands that are no constants.
func placesOf(l []api.Operand) []api.Place {
	var places []api.Place
	for _, d := range flow.DeedsOf(l...) {
		places = append(places, d.Place)
	}
	return places
}

// against are the loans that what stands at a point invalidates.
func (x *function) against(b, i int) set[loan] {
	var l set[loan]
	for _, d := range flow.DeedsAt(x.fn.Blocks[b], i) {
		for k := range x.lent[local(d.Place.Local)].all() {
			if k != x.steps[b][i].issued && breaks(d, x.loans[k]) {
				l.put(k)
			}
		}
	}
	return l
}
