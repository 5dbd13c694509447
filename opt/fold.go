package opt

import (
	"slices"

	"patina/api"
	"patina/lookup"
	"patina/mir"
)

// folder replaces what is known by constants.
type folder struct {
	*cells
	begin   []state // of blocks; nil: none leads there
	changed bool
}

// fold replaces what is known by constants: operands, values, tests, and, ahead of tests that are all of a block, the way to it.
func (f *function) fold() bool {
	x := &folder{cells: f.newCells(), begin: make([]state, len(f.Blocks))}
	x.begin[0] = make(state, x.count)
	x.spread()
	for b, s := range x.begin {
		if s != nil {
			x.block(b, slices.Clone(s))
		}
	}
	return x.changed
}

// spread finds what is known at the beginnings of blocks: at first all that the first way to one knows, then less and less.
func (x *folder) spread() {
	work := []int{0}
	waits := make([]bool, len(x.Blocks))
	for len(work) > 0 {
		b := work[0]
		work = work[1:]
		waits[b] = false
		s := slices.Clone(x.begin[b])
		if !x.pass(b, s) {
			continue
		}
		for _, to := range x.onward(b, s) {
			if x.reach(to, x.towards(b, to, s)) && !waits[to] {
				waits[to] = true
				work = append(work, to)
			}
		}
	}
}

// reach notes that a way with such a state leads to a block, and tells whether that is news.
func (x *folder) reach(b int, s state) bool {
	if x.begin[b] == nil {
		x.begin[b] = s
		return true
	}
	return x.begin[b].join(s)
}

// pass brings a state from a block's beginning to its end; false: the program ends ahead of that.
func (x *folder) pass(b int, s state) bool {
	for k := range x.Blocks[b].Stmts {
		if x.statement(s, &x.Blocks[b].Stmts[k]) != api.ExitDone {
			return false
		}
	}
	return true
}

// statement brings a state behind a statement; or it is the code with which that ends the program.
func (x *folder) statement(s state, t *api.MStmt) int {
	if t.Kind != api.MSet { // what is gone or begins anew is read by nobody, or it would be undefined
		return api.ExitDone
	}
	l, code := x.rvalue(s, &t.R)
	x.write(s, t.Place, l)
	return code
}

// onward are the blocks to which a block may go on from its end.
func (x *folder) onward(b int, s state) []int {
	t := &x.Blocks[b].Term
	if to, known := x.chosen(t, s); known {
		return []int{to}
	}
	return mir.Next(*t)
}

// chosen is the block to which a test leads, where it is known.
func (x *folder) chosen(t *api.MTerm, s state) (int, bool) {
	if t.Kind != api.TIf && t.Kind != api.TSwitch {
		return 0, false
	}
	arg := x.operand(s, t.Arg)[0]
	if !arg.known {
		return 0, false
	}
	return t.To[placeOf(t, arg.n)], true
}

// placeOf is which of a test's blocks a number leads to.
func placeOf(t *api.MTerm, n int64) int {
	if t.Kind == api.TIf {
		if n == 1 {
			return 0
		}
		return 1
	}
	if k, there := slices.BinarySearch(t.Values, n); there {
		return k
	}
	return len(t.Values)
}

// towards is the state on the way from a block's end to another one: a call has set something; a test tells a number, and by that perhaps a tag.
func (x *folder) towards(b, to int, s state) state {
	s = slices.Clone(s)
	t := &x.Blocks[b].Term
	switch t.Kind {
	case api.TCall:
		x.write(s, t.Place, make([]value, x.known.Words(x.typeOf(t.Place))))
	case api.TIf, api.TSwitch:
		n, only := x.numberTo(t, to)
		if !only || isConstant(t.Arg) {
			break
		}
		x.write(s, t.Arg.Place, []value{is(n)})
		if of, there := x.tagged(b); there {
			x.write(s, of, []value{is(n)})
		}
	}
	return s
}

// tagged is the enum whose tag a block's end asks for, if it still has it.
func (x *folder) tagged(b int) (api.Place, bool) {
	k := &x.Blocks[b]
	arg := k.Term.Arg.Place
	if k.Term.Kind != api.TSwitch || !isLocal(arg) || x.first[arg.Local] < 0 {
		return api.Place{}, false
	}
	var later []int // locals that are changed behind the statement at hand
	for _, t := range slices.Backward(k.Stmts) {
		if samePlace(t.Place, arg) {
			return t.R.Place, t.R.Kind == api.RTag && !slices.Contains(later, t.R.Place.Local)
		}
		later = append(later, t.Place.Local)
	}
	return api.Place{}, false
}

// numberTo is the one number by which a test leads to a block; false: there are more.
func (x *folder) numberTo(t *api.MTerm, to int) (int64, bool) {
	k := slices.Index(t.To, to)
	if slices.Contains(t.To[k+1:], to) {
		return 0, false
	}
	if t.Kind == api.TSwitch {
		if k == len(t.Values) {
			return 0, false
		}
		return t.Values[k], true
	}
	return int64(1 - k), k == 0 || !x.mixed
}

// block replaces what is known in a block, and leaves out drops of what owns nothing.
func (x *folder) block(b int, s state) {
	k := &x.Blocks[b]
	kept := k.Stmts[:0]
	for _, t := range k.Stmts {
		x.operands(s, t.R.Args)
		x.value(s, &t)
		if code := x.statement(s, &t); code != api.ExitDone {
			*k = api.MBlock{Stmts: kept, Term: api.MTerm{Kind: api.TPanic, Code: code, At: t.From, Till: t.To}}
			x.changed = true
			return
		}
		if t.Kind == api.MDrop && x.ownsNothing(s, t.Place) {
			x.changed = true
			continue
		}
		kept = append(kept, t)
	}
	k.Stmts = kept
	x.end(b, s)
}

// ownsNothing tells whether it is known of what is at a place that it owns nothing. (If it is gone, a drop does nothing, either.)
func (x *folder) ownsNothing(s state, p api.Place) bool {
	t := x.typeOf(p)
	if !x.known.Owns(t) {
		return true
	}
	part := func(number int) api.Place {
		return api.Place{Local: p.Local, Path: append(slices.Clone(p.Path), number)}
	}
	if variants, is := x.known.Variants(t); is {
		tag := x.place(s, p)[0]
		return tag.known && tag.n >= 0 && tag.n < int64(len(variants)) && (variants[tag.n].Type == "" || x.ownsNothing(s, part(-2-int(tag.n))))
	}
	fields, is := x.known.Fields(t)
	for k := range fields {
		is = is && x.ownsNothing(s, part(k))
	}
	return is
}

// value replaces what a statement makes by a constant, if it is known.
func (x *folder) value(s state, t *api.MStmt) {
	switch t.R.Kind {
	case api.RBin, api.RNeg, api.RNot, api.RTag:
		if l, code := x.rvalue(s, &t.R); l[0].known && code == api.ExitDone {
			t.R = api.Rvalue{Kind: api.RUse, Args: []api.Operand{constant(x.typeOf(t.Place), l[0].n)}}
			x.changed = true
		}
	}
}

// constant is the constant of a type.
func constant(t string, n int64) api.Operand {
	switch t {
	case lookup.Truth:
		return api.Operand{Kind: api.OTruth, Num: n}
	case lookup.Unit:
		return api.Operand{Kind: api.OUnit}
	}
	return api.Operand{Kind: api.ONum, Num: n}
}

// operands replaces operands that are known.
func (x *folder) operands(s state, l []api.Operand) {
	for k := range l {
		x.replace(s, &l[k])
	}
}

// replace replaces an operand, if it is known. A truth that is another number than 0 and 1 has no constant.
func (x *folder) replace(s state, o *api.Operand) {
	if o.Kind != api.OCopy {
		return
	}
	t := x.typeOf(o.Place)
	n := int64(0)
	switch t {
	case lookup.Number, lookup.Truth:
		v := x.operand(s, *o)[0]
		if !v.known || t == lookup.Truth && v.n != 0 && v.n != 1 {
			return
		}
		n = v.n
	case lookup.Unit:
	default:
		return
	}
	*o = constant(t, n)
	x.changed = true
}

// end replaces what is known in a block's end.
func (x *folder) end(b int, s state) {
	t := &x.Blocks[b].Term
	x.operands(s, t.Args)
	if to, known := x.chosen(t, s); known {
		*t = api.MTerm{Kind: api.TGoto, To: []int{to}, At: t.At, Till: t.Till}
		x.changed = true
	}
	if !x.leads || t.Kind == api.TCall { // tests behind calls have most often no state to be known by
		return
	}
	ends := map[int]int{}
	for _, to := range mir.Next(*t) {
		ends[to] = x.through(to, x.towards(b, to, s))
		x.changed = x.changed || ends[to] != to
	}
	for k, to := range t.To {
		t.To[k] = ends[to]
	}
}

// through is where a way to a block ends that leads through tests which are all of their blocks, and known; a way that comes to no end ends where it is.
func (x *folder) through(b int, s state) int {
	seen := map[int]struct{}{}
	for to := b; ; {
		if _, again := seen[to]; again {
			return b
		}
		seen[to] = struct{}{}
		next, known := x.chosen(&x.Blocks[to].Term, s)
		if !known || len(x.Blocks[to].Stmts) > 0 {
			return to
		}
		to = next
	}
}
