package isel

import (
	"slices"

	"patina/api"
	"patina/flow"
	"patina/lookup"
)

// locals is what is known of a function's locals.
type locals struct {
	named []bool // somewhere in a block that is come to
	lent  []bool // there may be references to them
	loose []bool // something of them is dropped of which something may be gone
	plain []bool // truths that are 0 or 1
}

func (p *program) localsOf(fn api.MFn, order []int) locals {
	n := len(fn.Locals)
	l := locals{make([]bool, n), flow.Lent(fn), make([]bool, n), make([]bool, n)}
	for k, x := range fn.Locals {
		l.plain[k] = x.Type == lookup.Truth && (k == 0 || k > fn.Params)
	}
	drops := false
	for _, b := range order {
		block := fn.Blocks[b]
		for i := range len(block.Stmts) + 1 {
			for _, d := range flow.DeedsAt(block, i) {
				l.named[d.Place.Local] = true
				drops = drops || d.Kind == flow.Drops
			}
			if i == len(block.Stmts) || block.Stmts[i].Kind == api.MSet && !isPlain(block.Stmts[i].R) {
				l.plain[setAt(block, i)] = false
			}
		}
	}
	if drops {
		l.findLoose(fn)
	}
	return l
}

// setAt is the local of which the statement or call at a point sets something; that of an end that sets nothing is 0.
func setAt(b api.MBlock, i int) int {
	if i == len(b.Stmts) {
		return b.Term.Place.Local
	}
	return b.Stmts[i].Place.Local
}

// isPlain tells whether a truth that is set is 0 or 1, whatever it is made of.
func isPlain(r api.Rvalue) bool {
	return r.Kind == api.RBin || r.Kind == api.RNot || r.Kind == api.RUse && r.Args[0].Kind == api.OTruth
}

// findLoose finds the locals of which something is dropped that may be gone, or of which a part may.
func (l *locals) findLoose(fn api.MFn) {
	f := flow.New(fn)
	for b, gone := range f.Rounds(f.Behind, flow.Set.Join) {
		if gone == nil {
			continue
		}
		gone = slices.Clone(gone)
		for i, s := range fn.Blocks[b].Stmts {
			if s.Kind == api.MDrop && f.HasPart(gone, f.Steps[b][i][0].Place) {
				l.loose[s.Place.Local] = true
			}
			f.Pass(gone, b, i)
		}
	}
}

// isSure tells of a place whether what is dropped there is all there, as no reference leads there and what goes is known. What is moved from elsewhere must leave nothing behind.
func (l *locals) isSure(p api.Place) bool {
	return !l.lent[p.Local] && !l.loose[p.Local] && !slices.Contains(p.Path, -1)
}
