package mirtest

import (
	"slices"

	"patina/api"
	"patina/types"
)

// Number tells all statements and ends apart by their places in the source: the k-th one stands from k to k + 1.
func Number(m api.Mir) {
	at := 0
	for _, f := range m.Fns {
		for b := range f.Blocks {
			block := &f.Blocks[b]
			for i := range block.Stmts {
				block.Stmts[i].From, block.Stmts[i].To = at, at+1
				at++
			}
			block.Term.At, block.Term.Till = at, at+1
			at++
		}
	}
}

// fill are statements that set a local of the function at hand, by way of new locals.
func (m *Maker) fill(local int) []api.MStmt {
	t := m.f.Locals[local].Type
	if isConstant(t) {
		return []api.MStmt{set(local, api.Rvalue{Kind: api.RUse, Args: []api.Operand{m.constant(t)}})}
	}
	inner, points := types.Inner(t)
	ref, mut := types.Ref(t)
	switch {
	case ref:
		to := m.newLocal(inner)
		kind := api.RRef
		if mut {
			kind = api.RMut
		}
		return append(m.fill(to), set(local, api.Rvalue{Kind: kind, Place: api.Place{Local: to}}))
	case points:
		return m.filled(local, api.Rvalue{Kind: api.RBox}, inner)
	}
	if parts, is := m.types.Fields(t); is {
		return m.filled(local, api.Rvalue{Kind: api.RMake, Name: t}, typesOf(parts)...)
	}
	variants, _ := m.types.Variants(t)
	k := m.Choose(len(variants))
	r := api.Rvalue{Kind: api.RPick, Name: t, Variant: k}
	if variants[k].Type == "" {
		return []api.MStmt{set(local, r)}
	}
	return m.filled(local, r, variants[k].Type)
}

// filled sets a local to an rvalue of operands that are filled first.
func (m *Maker) filled(local int, r api.Rvalue, of ...string) []api.MStmt {
	var l []api.MStmt
	for _, t := range of {
		if isConstant(t) {
			r.Args = append(r.Args, m.constant(t))
			continue
		}
		part := m.newLocal(t)
		l = append(l, m.fill(part)...)
		r.Args = append(r.Args, m.use(spot{api.Place{Local: part}, t}))
	}
	return append(l, set(local, r))
}

func (m *Maker) newLocal(t string) int {
	m.f.Locals = append(m.f.Locals, api.Local{Type: t})
	return len(m.f.Locals) - 1
}

func set(local int, r api.Rvalue) api.MStmt {
	return api.MStmt{Kind: api.MSet, Place: api.Place{Local: local}, R: r}
}

// Repair changes MIR of Program until a check finds nothing wrong: ahead of a statement or end that is wrong its locals are set; if that does not help, it is left out, or ends the program.
func (m *Maker) Repair(x api.Mir, check func(api.Mir) api.Diag) {
	tried := api.Place{Local: -1} // where, as a function, and a block and a point behind it
	for {
		d := check(x)
		if d.Code == api.OK {
			return
		}
		f, b, i := find(x, d.From)
		m.f = &x.Fns[f]
		block := &m.f.Blocks[b]
		if tried.Local == f && slices.Equal(tried.Path, []int{b, i}) {
			if i == len(block.Stmts) {
				block.Term = api.MTerm{Kind: api.TPanic, Code: api.ExitPanic}
			} else {
				block.Stmts = slices.Delete(block.Stmts, i, i+1)
			}
		} else {
			ahead := m.fillAll(localsAt(*block, i))
			block.Stmts = slices.Insert(block.Stmts, i, ahead...)
			tried = api.Place{Local: f, Path: []int{b, i + len(ahead)}}
		}
		Number(x)
	}
}

// find is the function, the block and the point that stand at a number.
func find(x api.Mir, at int) (int, int, int) {
	for f, fn := range x.Fns {
		for b, block := range fn.Blocks {
			if at <= len(block.Stmts) {
				return f, b, at
			}
			at -= len(block.Stmts) + 1
		}
	}
	return 0, 0, 0
}

func (m *Maker) fillAll(locals []int) []api.MStmt {
	var l []api.MStmt
	for _, k := range locals {
		l = append(l, m.fill(k)...)
	}
	return l
}

// localsAt are the locals that are named at a point, each once; of a return local 0.
func localsAt(b api.MBlock, i int) []int {
	places, operands := []api.Place{b.Term.Place}, append(slices.Clone(b.Term.Args), b.Term.Arg)
	if i < len(b.Stmts) {
		s := b.Stmts[i]
		places, operands = []api.Place{s.Place, s.R.Place}, s.R.Args
	}
	for _, o := range operands {
		places = append(places, o.Place)
	}
	var l []int
	for _, p := range places {
		if !slices.Contains(l, p.Local) {
			l = append(l, p.Local)
		}
	}
	return l
}
