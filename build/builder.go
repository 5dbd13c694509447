package build

import (
	"slices"

	"patina/api"
	"patina/lookup"
)

// nowhere is the block at hand to which nothing leads: what would go there is left out at once, and so is all that only it leads to.
const nowhere = -1

// builder makes the MIR of one function.
type builder struct {
	typed  *api.Typed
	types  *lookup.Types
	locals []api.Local // the result, the variables, and the temporaries as they are made
	named  int         // how many of them are no temporaries
	blocks []block
	come   int    // how many blocks are come to
	at     int    // the block at hand
	open   []int  // the locals of all scopes, the innermost scope's last
	loops  []loop // in whose blocks the walk is, the innermost one last
	long   bool   // something is longer than it may be: nothing more is made
}

type block struct {
	api.MBlock
	come bool // something that is come to leads to it
}

// loop is where a KWhile's break and continue lead to, and how many locals there were ahead of its block.
type loop struct {
	head, behind int
	open         int
}

// span is a place in the source.
type span struct {
	from, to int
}

func newBuilder(t *api.Typed, known *lookup.Types, f int) *builder {
	locals := localsOf(t, f)
	return &builder{typed: t, types: known, locals: locals, named: len(locals), at: nowhere}
}

func (b *builder) node(n int) *api.Node { return &b.typed.Tree.Nodes[n] }

// typeOf is the type of an expression's value, which is () where it never tells one.
func (b *builder) typeOf(n int) string {
	if t := b.typed.Types[n]; t != "!" {
		return t
	}
	return lookup.Unit
}

func (b *builder) span(n int) span { return span{b.node(n).From, b.node(n).To} }

// last is the last byte of a node.
func (b *builder) last(n int) span { return span{b.node(n).To - 1, b.node(n).To} }

// temporary makes a new local.
func (b *builder) temporary(t string) api.Place {
	b.locals = append(b.locals, api.Local{Type: t})
	return whole(len(b.locals) - 1)
}

// whole is the place of a whole local.
func whole(local int) api.Place { return api.Place{Local: local} }

// behind is the place one step behind another one, whose path it does not share.
func behind(p api.Place, step int) api.Place {
	return api.Place{Local: p.Local, Path: slices.Concat(p.Path, []int{step})}
}

// newBlock makes a block that is not at hand yet.
func (b *builder) newBlock() int {
	b.blocks = append(b.blocks, block{})
	return len(b.blocks) - 1
}

// goOn makes a block the one at hand, behind the end of another one, if that or one ahead led to it.
func (b *builder) goOn(k int) {
	if b.blocks[k].come && !b.long {
		b.at = k
	}
}

// end ends the block at hand: nothing leads on but to the blocks of its To. Its places are whole locals, without a path.
func (b *builder) end(t api.MTerm, at span) {
	if b.at == nowhere {
		return
	}
	t.At, t.Till = at.from, at.to
	b.blocks[b.at].Term = t
	b.at = nowhere
	for _, to := range t.To {
		b.comeTo(to)
	}
}

func (b *builder) comeTo(k int) {
	if !b.blocks[k].come {
		b.blocks[k].come = true
		b.come++
	}
	b.long = b.long || b.come > api.MaxBlocks
}

func (b *builder) goTo(k int) { b.end(api.MTerm{Kind: api.TGoto, To: []int{k}}, span{}) }

// add puts a statement behind those of the block at hand.
func (b *builder) add(s api.MStmt, at span) {
	if b.at == nowhere {
		return
	}
	s.Place, s.R.Place = b.own(s.Place), b.own(s.R.Place)
	for k, o := range s.R.Args {
		s.R.Args[k].Place = b.own(o.Place)
	}
	s.From, s.To = at.from, at.to
	l := append(b.blocks[b.at].Stmts, s)
	b.blocks[b.at].Stmts = l
	if b.long = b.long || len(l) > MaxStmts; b.long {
		b.at = nowhere
	}
}

func (b *builder) set(p api.Place, r api.Rvalue, at span) {
	b.add(api.MStmt{Kind: api.MSet, Place: p, R: r}, at)
}

// drop drops what is at a place, if its type owns.
func (b *builder) drop(p api.Place, t string, at span) {
	if b.types.Owns(t) {
		b.add(api.MStmt{Kind: api.MDrop, Place: p}, at)
	}
}

// own is a place whose path nobody else has.
func (b *builder) own(p api.Place) api.Place {
	if len(p.Path) > MaxPath {
		b.long = true
		return api.Place{}
	}
	p.Path = slices.Clone(p.Path)
	return p
}

// begin begins a variable that a node makes, in the scope at hand.
func (b *builder) begin(n int) api.Place {
	p := whole(b.typed.Vars[n] + 1)
	b.add(api.MStmt{Kind: api.MLive, Place: p}, b.span(n))
	b.open = append(b.open, p.Local)
	return p
}

// leave ends all scopes that began since so many locals were there, on the way that the block at hand goes.
func (b *builder) leave(open int, at span) {
	for _, local := range slices.Backward(b.open[open:]) {
		b.drop(whole(local), b.locals[local].Type, at)
		if local < b.named {
			b.add(api.MStmt{Kind: api.MDead, Place: whole(local)}, at)
		}
	}
}

// endScope ends the innermost scope, which began when so many locals were there. The list is cut with its room, so that what comes next takes none of it.
func (b *builder) endScope(open int, at span) {
	b.leave(open, at)
	b.open = b.open[:open:open]
}
