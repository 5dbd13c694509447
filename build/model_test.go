package build

import (
	"slices"
	"strings"

	"patina/api"
	"patina/items"
	"patina/types"
)

// model makes MIR as the chapter's words stand: all blocks, those to which nothing leads, too; what is too much is left out at the end.
type model struct {
	u      api.Typed
	locals []api.Local
	vars   int // locals that are no temporaries
	blocks []*api.MBlock
	hand   int
	scopes [][]int
	rounds []round
	copied map[string]bool
	owned  map[string]bool
}

type round struct{ head, behind, scopes int }

// modelOf is the MIR of a typed tree, or the function that is too long.
func modelOf(u api.Typed) (api.Mir, api.Diag) {
	m := api.Mir{Items: u.Items}
	copied, owned := map[string]bool{}, map[string]bool{}
	for k, f := range u.Items.Fns {
		x := &model{u: u, copied: copied, owned: owned}
		fn, fits := x.function(k)
		if !fits {
			n := u.Tree.Nodes[f.Node]
			return api.Mir{}, api.Diag{Code: api.ErrLong, From: n.From, To: n.To}
		}
		m.Fns = append(m.Fns, fn)
	}
	return m, api.Diag{}
}

func (m *model) isCopied(t string) bool {
	if _, there := m.copied[t]; !there {
		m.copied[t], _ = types.Copy(m.u.Items, t)
		m.owned[t], _ = types.Owns(m.u.Items, t)
	}
	return m.copied[t]
}

func (m *model) owns(t string) bool {
	m.isCopied(t)
	return m.owned[t]
}

func (m *model) node(n int) api.Node { return m.u.Tree.Nodes[n] }

func (m *model) typeOf(n int) string { return strings.ReplaceAll(m.u.Types[n], "!", "()") }

func (m *model) temp(t string) int {
	m.locals = append(m.locals, api.Local{Type: t})
	return len(m.locals) - 1
}

func (m *model) newBlock() int {
	m.blocks = append(m.blocks, &api.MBlock{})
	return len(m.blocks) - 1
}

func (m *model) say(from, to int, s api.MStmt) {
	s.From, s.To = from, to
	m.blocks[m.hand].Stmts = append(m.blocks[m.hand].Stmts, s)
}

func (m *model) sayAt(n int, s api.MStmt) { m.say(m.node(n).From, m.node(n).To, s) }

func (m *model) setAt(n, local int, r api.Rvalue) {
	m.sayAt(n, api.MStmt{Kind: api.MSet, Place: api.Place{Local: local}, R: r})
}

// stop ends the block at hand; what comes next is at hand then.
func (m *model) stop(from, to, next int, t api.MTerm) {
	t.At, t.Till = from, to
	m.blocks[m.hand].Term = t
	m.hand = next
}

func (m *model) stopAt(n, next int, t api.MTerm) { m.stop(m.node(n).From, m.node(n).To, next, t) }

func (m *model) jump(to, next int) { m.stop(0, 0, next, api.MTerm{Kind: api.TGoto, To: []int{to}}) }

func (m *model) use(p api.Place, t string) api.Operand {
	if m.isCopied(t) {
		return api.Operand{Kind: api.OCopy, Place: p}
	}
	return api.Operand{Kind: api.OMove, Place: p}
}

func useOf(o api.Operand) api.Rvalue { return api.Rvalue{Kind: api.RUse, Args: []api.Operand{o}} }

// function is the MIR of a function; false: it is too long.
func (m *model) function(f int) (api.MFn, bool) {
	of := m.u.Items.Fns[f]
	m.locals = append(m.locals, api.Local{Type: of.Ret})
	m.locals = append(m.locals, m.u.Locals[f]...)
	m.vars = len(m.locals)
	m.scopes = [][]int{nil}
	for k := range of.Params {
		m.scopes[0] = append(m.scopes[0], k+1)
	}
	m.hand = m.newBlock()
	kids := m.node(of.Node).Kids
	m.bring(kids[len(kids)-1], 0)
	end := m.node(of.Node).To
	m.close(0, end-1, end)
	m.stop(end-1, end, m.newBlock(), api.MTerm{Kind: api.TReturn})
	return m.whole(api.MFn{Name: of.Name, Params: len(of.Params)})
}

// ends are the statements that end scopes from one on, the innermost first.
func (m *model) ends(from, a, b int) {
	for _, scope := range slices.Backward(m.scopes[from:]) {
		for _, local := range slices.Backward(scope) {
			p := api.Place{Local: local}
			if m.owns(m.locals[local].Type) {
				m.say(a, b, api.MStmt{Kind: api.MDrop, Place: p})
			}
			if local < m.vars {
				m.say(a, b, api.MStmt{Kind: api.MDead, Place: p})
			}
		}
	}
}

func (m *model) close(from, a, b int) {
	m.ends(from, a, b)
	m.scopes = m.scopes[:from]
}

func (m *model) open() int {
	m.scopes = append(m.scopes, nil)
	return len(m.scopes) - 1
}

func (m *model) isIn(local int) {
	last := len(m.scopes) - 1
	m.scopes[last] = append(m.scopes[last], local)
}

func (m *model) live(n int) int {
	local := m.u.Vars[n] + 1
	m.sayAt(n, api.MStmt{Kind: api.MLive, Place: api.Place{Local: local}})
	m.isIn(local)
	return local
}

func (m *model) constant(n int) (api.Operand, bool) {
	x := m.node(n)
	kind := map[int]int{api.KNum: api.ONum, api.KTruth: api.OTruth, api.KNil: api.OUnit}[x.Kind]
	return api.Operand{Kind: kind, Num: x.Num}, kind != 0
}

func (m *model) temporary(n int) int {
	t := m.temp(m.typeOf(n))
	m.bring(n, t)
	return t
}

func (m *model) operand(n int) api.Operand {
	if o, is := m.constant(n); is {
		return o
	}
	return m.use(api.Place{Local: m.temporary(n)}, m.typeOf(n))
}

func (m *model) isPlace(n int) bool {
	kind := m.node(n).Kind
	return kind == api.KVar || kind == api.KGet || kind == api.KStar
}

func (m *model) place(n int) api.Place {
	x := m.node(n)
	if !m.isPlace(n) {
		return api.Place{Local: m.temporary(n)}
	}
	if x.Kind == api.KVar {
		return api.Place{Local: m.u.Vars[n] + 1}
	}
	p := m.place(x.Kids[0])
	if x.Kind == api.KStar {
		return step(p, -1)
	}
	t := m.u.Types[x.Kids[0]]
	for {
		inner, points := types.Inner(t)
		if !points {
			k, _, _ := items.Field(m.u.Items, t, x.Name)
			return step(p, k)
		}
		p, t = step(p, -1), inner
	}
}

func step(p api.Place, k int) api.Place {
	return api.Place{Local: p.Local, Path: append(slices.Clone(p.Path), k)}
}

func (m *model) bring(n, p int) {
	x := m.node(n)
	if o, is := m.constant(n); is {
		m.setAt(n, p, useOf(o))
		return
	}
	if m.isPlace(n) {
		m.setAt(n, p, useOf(m.use(m.place(n), m.typeOf(n))))
		return
	}
	var args []api.Operand
	argsOf := func(kids []int) []api.Operand {
		for _, kid := range kids {
			args = append(args, m.operand(kid))
		}
		return args
	}
	switch x.Kind {
	case api.KBin:
		if x.Name == "&&" || x.Name == "||" {
			m.short(n, p)
			return
		}
		m.setAt(n, p, api.Rvalue{Kind: api.RBin, Op: x.Name, Args: argsOf(x.Kids)})
	case api.KNeg:
		m.setAt(n, p, api.Rvalue{Kind: api.RNeg, Args: argsOf(x.Kids)})
	case api.KNot:
		m.setAt(n, p, api.Rvalue{Kind: api.RNot, Args: argsOf(x.Kids)})
	case api.KNew:
		m.setAt(n, p, api.Rvalue{Kind: api.RBox, Args: argsOf(x.Kids)})
	case api.KCall:
		argsOf(x.Kids)
		next := m.newBlock()
		if x.Name == "panic" {
			m.stopAt(n, next, api.MTerm{Kind: api.TPanic, Code: api.ExitPanic})
			return
		}
		m.stopAt(n, next, api.MTerm{Kind: api.TCall, Name: x.Name, Args: args, Place: api.Place{Local: p}, To: []int{next}})
	case api.KMake:
		s, _ := items.Struct(m.u.Items, x.Name)
		sorted := make([]api.Operand, len(s.Fields))
		for _, kid := range x.Kids {
			k, _, _ := items.Field(m.u.Items, x.Name, m.node(kid).Name)
			sorted[k] = m.operand(m.node(kid).Kids[0])
		}
		m.setAt(n, p, api.Rvalue{Kind: api.RMake, Name: x.Name, Args: sorted})
	case api.KPick:
		e, v, _ := items.Variant(m.u.Items, x.Name)
		m.setAt(n, p, api.Rvalue{Kind: api.RPick, Name: m.u.Items.Enums[e].Name, Variant: v, Args: argsOf(x.Kids)})
	case api.KBorrow:
		m.setAt(n, p, api.Rvalue{Kind: map[int64]int{0: api.RRef, 1: api.RMut}[x.Num], Place: m.place(x.Kids[0])})
	case api.KIf:
		m.branch(n, p)
	case api.KBlock:
		m.block(n, p)
	case api.KMatch:
		m.match(n, p)
	}
}

func (m *model) short(n, p int) {
	x := m.node(n)
	c := m.operand(x.Kids[0])
	yes, no, join := m.newBlock(), m.newBlock(), m.newBlock()
	m.stopAt(x.Kids[0], yes, api.MTerm{Kind: api.TIf, Arg: c, To: []int{yes, no}})
	if x.Name == "&&" {
		m.bring(x.Kids[1], p)
		m.jump(join, no)
		m.setAt(n, p, useOf(api.Operand{Kind: api.OTruth, Num: 0}))
		m.jump(join, join)
		return
	}
	m.setAt(n, p, useOf(api.Operand{Kind: api.OTruth, Num: 1}))
	m.jump(join, no)
	m.bring(x.Kids[1], p)
	m.jump(join, join)
}

func (m *model) branch(n, p int) {
	x := m.node(n)
	c := m.operand(x.Kids[0])
	yes, no, join := m.newBlock(), m.newBlock(), m.newBlock()
	m.stopAt(x.Kids[0], yes, api.MTerm{Kind: api.TIf, Arg: c, To: []int{yes, no}})
	m.bring(x.Kids[1], p)
	m.jump(join, no)
	if len(x.Kids) == 3 {
		m.bring(x.Kids[2], p)
	} else {
		m.say(0, 0, api.MStmt{Kind: api.MSet, Place: api.Place{Local: p}, R: useOf(api.Operand{Kind: api.OUnit})})
	}
	m.jump(join, join)
}

func (m *model) block(n, p int) {
	x := m.node(n)
	scope := m.open()
	for k, kid := range x.Kids {
		if x.Num == 1 && k+1 == len(x.Kids) {
			m.bring(kid, p)
		} else {
			m.statement(kid)
		}
	}
	if x.Num == 0 && m.u.Types[n] == "()" {
		m.setAt(n, p, useOf(api.Operand{Kind: api.OUnit}))
	}
	m.close(scope, x.To-1, x.To)
}

func (m *model) match(n, p int) {
	x := m.node(n)
	subject := x.Kids[0]
	t := m.typeOf(subject)
	s := m.place(subject)
	own := len(m.scopes)
	if !m.isPlace(subject) {
		m.open()
		m.isIn(s.Local)
	}
	ref, mut := types.Ref(t)
	q := s
	if ref {
		q = step(s, -1)
	}
	behind := m.newBlock()
	for _, arm := range x.Kids[1:] {
		a := m.node(arm)
		fails := m.newBlock()
		scope := m.open()
		m.test(a.Kids[0], q, fails)
		m.bind(a.Kids[0], s, q, t, true, ref, mut)
		m.bring(a.Kids[1], p)
		m.close(scope, a.To-1, a.To)
		m.jump(behind, fails)
	}
	m.stop(0, 0, behind, api.MTerm{Kind: api.TPanic, Code: api.ExitPanic})
	m.close(own, x.To-1, x.To)
}

func (m *model) test(n int, q api.Place, fails int) {
	x := m.node(n)
	yes := m.newBlock()
	switch x.Kind {
	case api.KPNum:
		t := m.temp("i64")
		m.setAt(n, t, useOf(api.Operand{Kind: api.OCopy, Place: q}))
		m.stopAt(n, yes, api.MTerm{Kind: api.TSwitch, Arg: api.Operand{Kind: api.OCopy, Place: api.Place{Local: t}}, Values: []int64{x.Num}, To: []int{yes, fails}})
	case api.KPTruth:
		t := m.temp("bool")
		m.setAt(n, t, useOf(api.Operand{Kind: api.OCopy, Place: q}))
		to := [][]int{{fails, yes}, {yes, fails}}[x.Num]
		m.stopAt(n, yes, api.MTerm{Kind: api.TIf, Arg: api.Operand{Kind: api.OCopy, Place: api.Place{Local: t}}, To: to})
	case api.KPPick:
		_, v, _ := items.Variant(m.u.Items, x.Name)
		t := m.temp("i64")
		m.setAt(n, t, api.Rvalue{Kind: api.RTag, Place: q})
		m.stopAt(n, yes, api.MTerm{Kind: api.TSwitch, Arg: api.Operand{Kind: api.OCopy, Place: api.Place{Local: t}}, Values: []int64{int64(v)}, To: []int{yes, fails}})
		if len(x.Kids) > 0 {
			m.test(x.Kids[0], step(q, -2-v), fails)
		}
	}
}

func (m *model) bind(n int, s, q api.Place, t string, whole, ref, mut bool) {
	x := m.node(n)
	switch {
	case x.Kind == api.KPPick && len(x.Kids) > 0:
		_, v, _ := items.Variant(m.u.Items, x.Name)
		m.bind(x.Kids[0], s, step(q, -2-v), t, false, ref, mut)
	case x.Kind != api.KPVar:
	case whole:
		m.setAt(n, m.live(n), useOf(m.use(s, t)))
	case mut:
		m.setAt(n, m.live(n), api.Rvalue{Kind: api.RMut, Place: q})
	case ref:
		m.setAt(n, m.live(n), api.Rvalue{Kind: api.RRef, Place: q})
	default:
		m.setAt(n, m.live(n), useOf(m.use(q, m.u.Types[n])))
	}
}

func (m *model) statement(n int) {
	x := m.node(n)
	switch x.Kind {
	case api.KLet:
		local := m.live(n)
		m.bring(x.Kids[len(x.Kids)-1], local)
	case api.KDo:
		t := m.temporary(x.Kids[0])
		if m.owns(m.locals[t].Type) {
			m.sayAt(n, api.MStmt{Kind: api.MDrop, Place: api.Place{Local: t}})
		}
	case api.KSet:
		v := m.temporary(x.Kids[1])
		p := m.place(x.Kids[0])
		t := m.locals[v].Type
		if m.owns(t) {
			m.sayAt(n, api.MStmt{Kind: api.MDrop, Place: p})
		}
		m.sayAt(n, api.MStmt{Kind: api.MSet, Place: p, R: useOf(m.use(api.Place{Local: v}, t))})
	case api.KWhile:
		head, body, behind := m.newBlock(), m.newBlock(), m.newBlock()
		m.jump(head, head)
		c := m.operand(x.Kids[0])
		m.stopAt(x.Kids[0], body, api.MTerm{Kind: api.TIf, Arg: c, To: []int{body, behind}})
		m.rounds = append(m.rounds, round{head, behind, len(m.scopes)})
		m.bring(x.Kids[1], m.temp("()"))
		m.rounds = m.rounds[:len(m.rounds)-1]
		m.jump(head, behind)
	case api.KReturn:
		if len(x.Kids) == 1 {
			m.bring(x.Kids[0], 0)
		} else {
			m.setAt(n, 0, useOf(api.Operand{Kind: api.OUnit}))
		}
		m.ends(0, x.From, x.To)
		m.stopAt(n, m.newBlock(), api.MTerm{Kind: api.TReturn})
	case api.KBreak, api.KNext:
		r := m.rounds[len(m.rounds)-1]
		m.ends(r.scopes, x.From, x.To)
		m.jump(map[int]int{api.KBreak: r.behind, api.KNext: r.head}[x.Kind], m.newBlock())
	}
}

// whole is the function with what is left out left out, in its last numbers; false: it is too long.
func (m *model) whole(f api.MFn) (api.MFn, bool) {
	numbers := map[int]int{}
	var walk func(k int)
	walk = func(k int) {
		if _, seen := numbers[k]; seen {
			return
		}
		numbers[k] = len(f.Blocks)
		f.Blocks = append(f.Blocks, *m.blocks[k])
		for _, to := range m.blocks[k].Term.To {
			walk(to)
		}
	}
	walk(0)
	fits := len(f.Blocks) <= 1024
	f.Locals = slices.Clone(m.locals[:m.vars])
	names := map[int]int{}
	place := func(p api.Place) api.Place {
		fits = fits && len(p.Path) <= 64
		if p.Local < m.vars {
			return p
		}
		if _, named := names[p.Local]; !named {
			names[p.Local] = len(f.Locals)
			f.Locals = append(f.Locals, m.locals[p.Local])
		}
		return api.Place{Local: names[p.Local], Path: p.Path}
	}
	operands := func(l []api.Operand) []api.Operand {
		l = slices.Clone(l)
		for k, o := range l {
			l[k].Place = place(o.Place)
		}
		return l
	}
	for k := range f.Blocks {
		b := &f.Blocks[k]
		fits = fits && len(b.Stmts) <= 4096
		for i := range b.Stmts {
			s := &b.Stmts[i]
			s.R.Args = operands(s.R.Args)
			s.R.Place = place(s.R.Place)
			s.Place = place(s.Place)
		}
		b.Term.Arg.Place = place(b.Term.Arg.Place)
		b.Term.Args = operands(b.Term.Args)
		b.Term.Place = place(b.Term.Place)
		for i, to := range b.Term.To {
			b.Term.To[i] = numbers[to]
		}
	}
	return f, fits && len(f.Locals) <= 4096
}
