package opt

import (
	"slices"

	"patina/api"
	"patina/flow"
	"patina/fresh"
)

// mostFacts is how many copies are kept in mind at once.
const mostFacts = 64

// fact is that a local has what is at a place, or, of an enum there, its tag.
type fact struct {
	local int
	place api.Place
	tag   bool
}

// copier asks a local for what it was copied from, and what was asked for already for its copy.
type copier struct {
	*function
	lent    []bool
	named   []int // how often each local is named
	facts   []fact
	changed bool
}

// copies replaces a copy by what was copied, where both are still the same; and what was read from behind an address, or a tag, by the local that has it.
func (f *function) copies() bool {
	next := flow.NextOf(f.Blocks)
	ways := f.ways()
	c := &copier{function: f, lent: flow.Lent(f.MFn), named: f.named()}
	begin := make([][]fact, len(f.Blocks))
	for _, b := range flow.Order(next, 0) {
		c.facts = begin[b]
		c.block(b)
		for _, to := range next[b] {
			if ways[to] == 1 {
				begin[to] = c.facts
			}
		}
	}
	return c.changed
}

// named is how often each local is named.
func (f *function) named() []int {
	l := make([]int, len(f.Locals))
	for _, b := range f.Blocks {
		for i := range len(b.Stmts) + 1 {
			for _, d := range flow.DeedsAt(b, i) {
				l[d.Place.Local]++
			}
		}
	}
	return l
}

func (c *copier) block(b int) {
	k := &c.Blocks[b]
	for i := range k.Stmts {
		c.statement(&k.Stmts[i])
	}
	t := &k.Term
	c.operand(&t.Arg)
	c.operands(t.Args)
	if t.Kind == api.TCall {
		if t.Name != "print" && t.Name != "read" {
			c.forgetMemory()
		}
		c.forget(t.Place)
	}
}

func (c *copier) statement(t *api.MStmt) {
	if t.Kind != api.MSet {
		c.forget(t.Place)
		c.forgetMemory() // blocks may end, and what was lent
		return
	}
	c.again(t)
	c.operands(t.R.Args)
	if t.R.Kind == api.RRef || t.R.Kind == api.RMut || t.R.Kind == api.RTag {
		c.base(&t.R.Place)
	}
	c.forget(t.Place)
	if isLocal(t.Place) && !c.lent[t.Place.Local] {
		c.note(t)
	}
}

// operands replaces operands, one behind the other: what one takes is not there for the next.
func (c *copier) operands(l []api.Operand) {
	for k := range l {
		c.operand(&l[k])
	}
}

func (c *copier) operand(o *api.Operand) {
	switch o.Kind {
	case api.OCopy:
		c.base(&o.Place)
	case api.OMove:
		c.forget(o.Place)
	}
}

// base lets a place that begins with a copy begin with what was copied. What must be read for that is read once, as it was for the copy.
func (c *copier) base(p *api.Place) {
	k := slices.IndexFunc(c.facts, func(x fact) bool { return x.local == p.Local && !x.tag })
	if k < 0 {
		return
	}
	from := c.facts[k].place
	if c.isMemory(from) && c.named[p.Local] > 2 {
		return
	}
	c.named[p.Local]--
	c.named[from.Local]++
	*p = api.Place{Local: from.Local, Path: slices.Concat(from.Path, p.Path)}
	c.changed = true
}

// again replaces what was read before by the local that has it.
func (c *copier) again(t *api.MStmt) {
	var from api.Place
	switch {
	case t.R.Kind == api.RTag:
		from = t.R.Place
	case t.R.Kind == api.RUse && t.R.Args[0].Kind == api.OCopy && c.isMemory(t.R.Args[0].Place):
		from = t.R.Args[0].Place
	default:
		return
	}
	k := slices.IndexFunc(c.facts, func(x fact) bool { return samePlace(x.place, from) }) // no enum is copied
	if k >= 0 {
		c.named[c.facts[k].local]++
		t.R = api.Rvalue{Kind: api.RUse, Args: []api.Operand{{Kind: api.OCopy, Place: api.Place{Local: c.facts[k].local}}}}
		c.changed = true
	}
}

// note keeps in mind what a statement has copied.
func (c *copier) note(t *api.MStmt) {
	x := fact{local: t.Place.Local}
	switch {
	case t.R.Kind == api.RTag:
		x.place, x.tag = fresh.Place(t.R.Place), true
	case t.R.Kind == api.RUse && t.R.Args[0].Kind == api.OCopy:
		x.place = fresh.Place(t.R.Args[0].Place)
	default:
		return
	}
	if x.place.Local == x.local {
		return
	}
	if len(c.facts) == mostFacts {
		c.facts = c.facts[1:]
	}
	c.facts = append(slices.Clip(c.facts), x)
}

// isMemory tells whether something else than the local of a place may lead to it.
func (c *copier) isMemory(p api.Place) bool { return c.lent[p.Local] || !isDirect(p) }

// forget forgets what hangs on a place that is changed.
func (c *copier) forget(p api.Place) {
	c.leave(func(x fact) bool { return x.local == p.Local || x.place.Local == p.Local })
	if c.isMemory(p) {
		c.forgetMemory()
	}
}

func (c *copier) forgetMemory() {
	c.leave(func(x fact) bool { return c.isMemory(x.place) })
}

// leave forgets some facts. Their list may be another block's, too.
func (c *copier) leave(is func(x fact) bool) {
	if slices.ContainsFunc(c.facts, is) {
		c.facts = slices.DeleteFunc(slices.Clone(c.facts), is)
	}
}
