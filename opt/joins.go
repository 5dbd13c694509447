package opt

import (
	"patina/api"
	"patina/flow"
	"patina/fresh"
)

// joiner lets a local go that is named twice alone: where it is set, and where what it has is handed on. Points are counted over all blocks, so that those of other blocks lie ahead of a block's first one.
type joiner struct {
	*function
	lent    []bool
	count   []int        // how often each local is named
	into    []*api.MTerm // the call that alone leads to each block; nil: there is none
	call    *api.MTerm   // that to the block at hand
	before  int          // the point ahead of the block at hand: that of such a call
	now     int          // the point at hand
	stands  int          // the last point ahead of it whose statement stays
	set     []int        // the point at which each local was set as a whole
	asked   []int        // the last point at which each local was named
	stmts   []api.MStmt  // of the block at hand
	idle    []bool       // which of them go
	changed bool
}

// joins sets at once what was set by way of a local, and takes at once what was taken by way of one.
func (f *function) joins() bool {
	n := len(f.Locals)
	j := &joiner{function: f, lent: flow.Lent(f.MFn), count: f.named(), into: f.calls(), set: make([]int, n), asked: make([]int, n)}
	for b := range f.Blocks {
		j.block(b)
	}
	return j.changed
}

// calls are the calls that alone lead to blocks.
func (f *function) calls() []*api.MTerm {
	ways := f.ways()
	l := make([]*api.MTerm, len(f.Blocks))
	for b := range f.Blocks {
		if t := &f.Blocks[b].Term; t.Kind == api.TCall && ways[t.To[0]] == 1 {
			l[t.To[0]] = t
		}
	}
	return l
}

func (j *joiner) block(b int) {
	k := &j.Blocks[b]
	j.now++
	j.before, j.stands = j.now, j.now
	j.stmts, j.idle = k.Stmts, make([]bool, len(k.Stmts))
	if j.call = j.into[b]; j.call != nil {
		j.note(j.call.Place)
	}
	for i := range k.Stmts {
		j.now++
		j.statement(&k.Stmts[i])
	}
	j.now++
	j.sources(k.Term.Args)
	k.Stmts = without(k.Stmts, j.idle)
}

// note notes what is set at the point at hand.
func (j *joiner) note(p api.Place) {
	if isLocal(p) {
		j.set[p.Local] = j.now
	}
}

func (j *joiner) statement(t *api.MStmt) {
	if j.target(t) {
		j.drop(j.now)
		return
	}
	j.sources(t.R.Args)
	for _, d := range flow.DeedsAt(api.MBlock{Stmts: []api.MStmt{*t}}, 0) {
		j.asked[d.Place.Local] = j.now
	}
	if t.Kind == api.MSet {
		j.note(t.Place)
	}
	j.stands = j.now
}

// isBetween tells of a local that is used whether it may go: it is set as a whole in the block at hand, or by the call that leads to it, and named nowhere else.
func (j *joiner) isBetween(local int) bool {
	return j.count[local] == 2 && j.set[local] >= j.before
}

// target lets a local that hands its value on to another one be that other one from the point on at which it is set, if that one is not named between.
func (j *joiner) target(t *api.MStmt) bool {
	if t.Kind != api.MSet || t.R.Kind != api.RUse || isConstant(t.R.Args[0]) || !isLocal(t.Place) || !isLocal(t.R.Args[0].Place) {
		return false
	}
	from, to := t.R.Args[0].Place.Local, t.Place.Local
	if from == to || j.lent[to] || !j.isBetween(from) || j.asked[to] > j.set[from] {
		return false
	}
	at := j.set[from]
	*j.placeAt(at) = api.Place{Local: to}
	j.asked[to], j.set[to] = at, at
	j.count[from] = 0
	return true
}

// placeAt is what is set at a point of the block at hand, or by the call that leads to it.
func (j *joiner) placeAt(at int) *api.Place {
	if at == j.before {
		return &j.call.Place
	}
	return &j.stmts[at-j.before-1].Place
}

// sources lets operands take at once what was taken for them alone.
func (j *joiner) sources(l []api.Operand) {
	for k := range l {
		local := l[k].Place.Local
		if l[k].Kind != api.OMove || !isLocal(l[k].Place) || !j.isBetween(local) || j.set[local] == j.before {
			continue
		}
		at := j.set[local]
		r := &j.stmts[at-j.before-1].R
		if r.Kind == api.RUse && j.mayWait(r.Args[0].Place, at, l, k) {
			l[k].Place = fresh.Place(r.Args[0].Place)
			j.count[local] = 0
			j.drop(at)
		}
	}
}

// mayWait tells whether a place may be taken by an operand, and not at a point ahead: nobody asks for it between. What may be asked for by another name must be taken right ahead.
func (j *joiner) mayWait(p api.Place, at int, l []api.Operand, k int) bool {
	own := !j.lent[p.Local] && isDirect(p)
	for i, o := range l {
		if i != k && !isConstant(o) && (o.Place.Local == p.Local || !own && (j.lent[o.Place.Local] || !isDirect(o.Place))) {
			return false
		}
	}
	if own {
		return j.asked[p.Local] <= at
	}
	return j.stands == at
}

// drop lets the statement at a point go.
func (j *joiner) drop(at int) {
	j.idle[at-j.before-1] = true
	j.changed = true
}
