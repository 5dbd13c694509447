package eval

import (
	"math"
	"math/big"
	"slices"
	"strconv"
	"strings"

	"patina/api"
	"patina/check"
	"patina/types"
)

// model is a second semantics, by the chapter's words: each scope ends where its walk does, whatever leaves it, and what leaves is told by a sign that all walks look at.
type model struct {
	t     api.Typed
	in    []byte
	fuel  int
	o     api.Outcome
	sign  int
	depth int
	vars  map[int]*modelObject
	scope *[]modelPlace
	ret   []cell
	sizes map[string]int
	kept  map[string]int // whether types are copied, and own
	past  bool           // whether it read behind the input's end
}

// Signs.
const (
	goesOn = iota
	returned
	broken
	next
	stopped
)

// cell is a word: nothing, a number, or a pointer.
type cell struct {
	kind int
	n    int64
	to   *modelObject
	at   int
}

const (
	cellNumber  = 1
	cellPointer = 2
)

type modelObject struct {
	cells []cell
	ended bool
}

type modelPlace struct {
	o  *modelObject
	at int
	t  string
}

func newModel(t api.Typed, in []byte, fuel int) *model {
	return &model{t: t, in: in, fuel: fuel, sizes: map[string]int{}, kept: map[string]int{}}
}

func (m *model) run(f int, args []int64) (int64, api.Outcome) {
	var values [][]cell
	for _, v := range args {
		values = append(values, numberCell(v))
	}
	told := m.call(f, values)
	v := int64(0)
	if m.sign == goesOn && len(told) > 0 {
		v = m.number(told[0])
	}
	if m.sign != goesOn {
		return 0, m.o
	}
	m.o.End = api.EndDone
	return v, m.o
}

func (m *model) stop(end, code int) {
	m.sign, m.o.End, m.o.Code = stopped, end, code
}

func (m *model) undefined() { m.stop(api.EndUndef, 0) }

func (m *model) tick() bool {
	if m.o.Steps == m.fuel {
		m.stop(api.EndFuel, 0)
		return false
	}
	m.o.Steps++
	return true
}

func numberCell(v int64) []cell { return []cell{{kind: cellNumber, n: v}} }

func truthCell(b bool) []cell {
	if b {
		return numberCell(1)
	}
	return numberCell(0)
}

func (m *model) number(c cell) int64 {
	if c.kind != cellNumber {
		m.undefined()
	}
	return c.n
}

func (m *model) size(t string) int {
	if _, known := m.sizes[t]; !known {
		m.sizes[t], _ = types.Words(m.t.Items, t)
	}
	return m.sizes[t]
}

// says is what a question tells of a type, which is asked once.
func (m *model) says(question string, ask func(api.Items, string) (bool, api.Errno), t string) bool {
	if _, known := m.kept[question+t]; !known {
		yes, _ := ask(m.t.Items, t)
		m.kept[question+t] = map[bool]int{true: 1}[yes]
	}
	return m.kept[question+t] == 1
}

func (m *model) fieldsOf(t string) ([]api.Field, bool) {
	for _, s := range m.t.Items.Structs {
		if s.Name == t {
			return s.Fields, true
		}
	}
	return nil, false
}

func (m *model) variantsOf(t string) ([]api.Field, bool) {
	for _, e := range m.t.Items.Enums {
		if e.Name == t {
			return e.Variants, true
		}
	}
	return nil, false
}

// look is the cell at a place, if the object lives and has it.
func (m *model) look(o *modelObject, at int) cell {
	if o.ended || at >= len(o.cells) {
		m.undefined()
		return cell{}
	}
	return o.cells[at]
}

// read reads a value; with parts of it that are nothing it is undefined.
func (m *model) read(p modelPlace) []cell {
	if p.o.ended {
		m.undefined()
	}
	value := make([]cell, m.size(p.t))
	if fields, is := m.fieldsOf(p.t); is {
		at := 0
		for _, f := range fields {
			at += copy(value[at:], m.read(modelPlace{p.o, p.at + at, f.Type}))
		}
		return value
	}
	if len(value) == 0 {
		return value
	}
	value[0] = m.look(p.o, p.at)
	if value[0].kind == 0 {
		m.undefined()
	}
	variants, is := m.variantsOf(p.t)
	if !is || m.sign != goesOn {
		return value
	}
	if value[0].kind != cellNumber || value[0].n < 0 || int(value[0].n) >= len(variants) {
		m.undefined()
	} else if v := variants[value[0].n]; v.Type != "" {
		copy(value[1:], m.read(modelPlace{p.o, p.at + 1, v.Type}))
	}
	return value
}

func (m *model) use(p modelPlace) []cell {
	value := m.read(p)
	if m.sign == goesOn && !m.says("copied ", types.Copy, p.t) {
		m.blank(p)
	}
	return value
}

func (m *model) blank(p modelPlace) {
	for k := range m.size(p.t) {
		if p.at+k < len(p.o.cells) {
			p.o.cells[p.at+k] = cell{}
		}
	}
}

func (m *model) write(p modelPlace, value []cell) {
	if p.o.ended || p.at+len(value) > len(p.o.cells) {
		m.undefined()
		return
	}
	copy(p.o.cells[p.at:], value)
}

func (m *model) dropAt(p modelPlace) {
	if p.o.ended {
		m.undefined()
		return
	}
	m.drop(p)
	if m.sign == goesOn {
		m.blank(p)
	}
}

func (m *model) drop(p modelPlace) {
	if m.sign != goesOn {
		return
	}
	if strings.HasPrefix(p.t, "Box<") {
		c := m.look(p.o, p.at)
		if m.sign != goesOn || c.kind == 0 {
			return
		}
		if c.kind != cellPointer || c.to.ended {
			m.undefined()
			return
		}
		if m.tick() {
			m.drop(modelPlace{c.to, c.at, p.t[4 : len(p.t)-1]})
		}
		if m.sign == goesOn {
			c.to.ended = true
		}
		return
	}
	if fields, is := m.fieldsOf(p.t); is {
		at := p.at
		for _, f := range fields {
			m.drop(modelPlace{p.o, at, f.Type})
			at += m.size(f.Type)
		}
	}
	if variants, is := m.variantsOf(p.t); is && m.says("owns ", types.Owns, p.t) {
		c := m.look(p.o, p.at)
		if m.sign != goesOn || c.kind == 0 {
			return
		}
		if c.kind != cellNumber || c.n < 0 || int(c.n) >= len(variants) {
			m.undefined()
		} else if v := variants[c.n]; v.Type != "" {
			m.drop(modelPlace{p.o, p.at + 1, v.Type})
		}
	}
}

// scoped walks in a scope of its own, and ends it whichever way the walk is left.
func (m *model) scoped(walk func() []cell) []cell {
	var own []modelPlace
	outer := m.scope
	m.scope = &own
	value := walk()
	m.scope = outer
	sign := m.sign
	if sign == stopped {
		return nil
	}
	m.sign = goesOn
	for _, p := range slices.Backward(own) {
		m.dropAt(p)
		if m.sign != goesOn {
			return nil
		}
		p.o.ended = true
	}
	m.sign = sign
	return value
}

func (m *model) begin(v int, t string, value []cell) {
	m.vars[v] = &modelObject{cells: value}
	*m.scope = append(*m.scope, modelPlace{m.vars[v], 0, t})
}

func (m *model) call(f int, args [][]cell) []cell {
	if m.depth == MaxCalls {
		m.stop(api.EndFuel, 0)
		return nil
	}
	m.depth++
	vars := m.vars
	m.vars = map[int]*modelObject{}
	told := m.scoped(func() []cell {
		for v, value := range args {
			m.begin(v, m.t.Locals[f][v].Type, value)
		}
		kids := m.t.Tree.Nodes[m.t.Items.Fns[f].Node].Kids
		return m.expr(kids[len(kids)-1])
	})
	m.vars = vars
	m.depth--
	if m.sign == returned {
		m.sign = goesOn
		return m.ret
	}
	return told
}

func (m *model) isPlace(n int) bool {
	return slices.Contains([]int{api.KVar, api.KGet, api.KStar}, m.t.Tree.Nodes[n].Kind)
}

func (m *model) place(n int) modelPlace {
	if !m.tick() {
		return modelPlace{}
	}
	x := m.t.Tree.Nodes[n]
	if x.Kind == api.KVar {
		return modelPlace{m.vars[m.t.Vars[n]], 0, m.t.Types[n]}
	}
	base := x.Kids[0]
	var p modelPlace
	if m.isPlace(base) {
		p = m.place(base)
	} else if value := m.expr(base); m.sign == goesOn {
		p = modelPlace{&modelObject{cells: value}, 0, m.t.Types[base]}
	}
	if m.sign != goesOn {
		return modelPlace{}
	}
	if x.Kind == api.KStar {
		return m.behind(p)
	}
	for check.Follow(p.t) != p.t {
		if p = m.behind(p); m.sign != goesOn {
			return modelPlace{}
		}
	}
	fields, _ := m.fieldsOf(p.t)
	for _, f := range fields {
		if f.Name == x.Name {
			p.t = f.Type
			break
		}
		p.at += m.size(f.Type)
	}
	return p
}

func (m *model) behind(p modelPlace) modelPlace {
	c := m.look(p.o, p.at)
	if m.sign != goesOn || c.kind != cellPointer || c.to.ended {
		m.undefined()
		return modelPlace{}
	}
	inner, _ := types.Inner(p.t)
	return modelPlace{c.to, c.at, inner}
}

// all are the values of some expressions, one behind the other.
func (m *model) all(kids []int) [][]cell {
	var l [][]cell
	for _, k := range kids {
		if m.sign == goesOn {
			l = append(l, m.expr(k))
		}
	}
	return l
}

func (m *model) expr(n int) []cell {
	x := m.t.Tree.Nodes[n]
	if m.isPlace(n) {
		if p := m.place(n); m.sign == goesOn {
			return m.use(p)
		}
		return nil
	}
	if !m.tick() {
		return nil
	}
	switch x.Kind {
	case api.KBlock:
		return m.scoped(func() []cell { return m.block(x) })
	case api.KMatch:
		return m.match(x)
	case api.KIf:
		return m.branch(x)
	case api.KBorrow:
		p := m.place(x.Kids[0])
		return []cell{{kind: cellPointer, to: p.o, at: p.at}}
	case api.KMake:
		return m.makeStruct(x)
	case api.KBin:
		if x.Name == "&&" || x.Name == "||" {
			left := m.expr(x.Kids[0])
			if m.sign != goesOn {
				return nil
			}
			holds := m.number(left[0]) == 1
			if m.sign == goesOn && holds == (x.Name == "&&") {
				return m.expr(x.Kids[1])
			}
			return truthCell(holds)
		}
	}
	l := m.all(x.Kids)
	if m.sign != goesOn {
		return nil
	}
	return m.simple(n, x, l)
}

// simple is the value of an expression whose kids' values are told.
func (m *model) simple(n int, x api.Node, l [][]cell) []cell {
	switch x.Kind {
	case api.KNum, api.KTruth:
		return numberCell(x.Num)
	case api.KNew:
		return []cell{{kind: cellPointer, to: &modelObject{cells: l[0]}}}
	case api.KPick:
		value := make([]cell, m.size(m.t.Types[n]))
		variants, _ := m.variantsOf(m.t.Types[n])
		for k, v := range variants {
			if m.t.Types[n]+"::"+v.Name == x.Name {
				value[0] = cell{kind: cellNumber, n: int64(k)}
			}
		}
		if len(l) > 0 {
			copy(value[1:], l[0])
		}
		return value
	case api.KNeg:
		return m.sum("-", 0, m.number(l[0][0]))
	case api.KNot:
		return truthCell(m.number(l[0][0]) != 1)
	case api.KBin:
		a, b := m.number(l[0][0]), m.number(l[1][0])
		if m.sign == goesOn {
			return m.sum(x.Name, a, b)
		}
	case api.KCall:
		return m.named(x.Name, l)
	}
	return nil
}

func (m *model) named(name string, l [][]cell) []cell {
	switch name {
	case "print":
		if v := m.number(l[0][0]); m.sign == goesOn {
			m.o.Out = append(m.o.Out, strconv.FormatInt(v, 10)+"\n"...)
		}
		return nil
	case "read":
		if len(m.in) == 0 {
			m.past = true
			return numberCell(-1)
		}
		b := m.in[0]
		m.in = m.in[1:]
		return numberCell(int64(b))
	case "panic":
		m.stop(api.EndDone, api.ExitPanic)
		return nil
	}
	for k, f := range m.t.Items.Fns {
		if f.Name == name {
			return m.call(k, l)
		}
	}
	return nil
}

// sum calculates with numbers of any size, and looks whether it went over.
func (m *model) sum(sign string, a, b int64) []cell {
	if (sign == "/" || sign == "%") && b == 0 {
		m.stop(api.EndDone, api.ExitDivide)
		return nil
	}
	x, y, v := big.NewInt(a), big.NewInt(b), new(big.Int)
	switch sign {
	case "+":
		v.Add(x, y)
	case "-":
		v.Sub(x, y)
	case "*":
		v.Mul(x, y)
	case "/":
		v.Quo(x, y)
	case "%":
		v.Rem(x, y)
		if a == math.MinInt64 && b == -1 {
			m.stop(api.EndDone, api.ExitOverflow)
		}
	default:
		c := x.Cmp(y)
		return truthCell(map[string]bool{"<": c < 0, "<=": c <= 0, ">": c > 0, ">=": c >= 0, "==": c == 0, "!=": c != 0}[sign])
	}
	if !v.IsInt64() {
		m.stop(api.EndDone, api.ExitOverflow)
		return nil
	}
	return numberCell(v.Int64())
}

func (m *model) makeStruct(x api.Node) []cell {
	parts := map[string][]cell{}
	for _, kid := range x.Kids {
		init := m.t.Tree.Nodes[kid]
		if parts[init.Name] = m.expr(init.Kids[0]); m.sign != goesOn {
			return nil
		}
	}
	var value []cell
	fields, _ := m.fieldsOf(x.Name)
	for _, f := range fields {
		value = append(value, parts[f.Name]...)
	}
	return value
}

func (m *model) branch(x api.Node) []cell {
	c := m.expr(x.Kids[0])
	if m.sign != goesOn {
		return nil
	}
	yes := m.number(c[0]) == 1
	switch {
	case m.sign != goesOn:
	case yes:
		return m.expr(x.Kids[1])
	case len(x.Kids) == 3:
		return m.expr(x.Kids[2])
	}
	return nil
}

func (m *model) block(x api.Node) []cell {
	for k, kid := range x.Kids {
		if m.sign != goesOn {
			return nil
		}
		if x.Num == 1 && k == len(x.Kids)-1 {
			return m.expr(kid)
		}
		m.statement(kid)
	}
	return nil
}

func (m *model) statement(n int) {
	if !m.tick() {
		return
	}
	x := m.t.Tree.Nodes[n]
	switch x.Kind {
	case api.KLet:
		of := x.Kids[len(x.Kids)-1]
		if value := m.expr(of); m.sign == goesOn {
			m.begin(m.t.Vars[n], m.t.Types[of], value)
		}
	case api.KDo:
		if value := m.expr(x.Kids[0]); m.sign == goesOn {
			m.drop(modelPlace{&modelObject{cells: value}, 0, m.t.Types[x.Kids[0]]})
		}
	case api.KSet:
		value := m.expr(x.Kids[1])
		if m.sign != goesOn {
			return
		}
		p := m.place(x.Kids[0])
		if m.sign == goesOn {
			m.dropAt(p)
		}
		if m.sign == goesOn {
			m.write(p, value)
		}
	case api.KWhile:
		m.while(x)
	case api.KReturn:
		l := m.all(x.Kids)
		if m.sign == goesOn {
			m.ret, m.sign = nil, returned
			if len(l) > 0 {
				m.ret = l[0]
			}
		}
	case api.KBreak:
		m.sign = broken
	case api.KNext:
		m.sign = next
	}
}

func (m *model) while(x api.Node) {
	for {
		c := m.expr(x.Kids[0])
		if m.sign != goesOn || m.number(c[0]) != 1 || m.sign != goesOn {
			return
		}
		m.expr(x.Kids[1])
		switch m.sign {
		case broken:
			m.sign = goesOn
			return
		case next:
			m.sign = goesOn
		case returned, stopped:
			return
		}
	}
}

func (m *model) match(x api.Node) []cell {
	return m.scoped(func() []cell {
		n := x.Kids[0]
		var subject modelPlace
		if m.isPlace(n) {
			subject = m.place(n)
		} else if value := m.expr(n); m.sign == goesOn {
			subject = modelPlace{&modelObject{cells: value}, 0, m.t.Types[n]}
			*m.scope = append(*m.scope, subject)
		}
		if m.sign != goesOn {
			return nil
		}
		for _, k := range x.Kids[1:] {
			value, done := m.arm(m.t.Tree.Nodes[k], subject)
			if done {
				return value
			}
		}
		m.stop(api.EndDone, api.ExitPanic)
		return nil
	})
}

// arm is what an arm tells, and whether the match is done with it.
func (m *model) arm(x api.Node, subject modelPlace) ([]cell, bool) {
	top := m.t.Tree.Nodes[x.Kids[0]]
	if top.Kind == api.KPVar || top.Kind == api.KPAny {
		if !m.tick() {
			return nil, true
		}
		return m.scoped(func() []cell {
			if top.Kind == api.KPVar {
				m.begin(m.t.Vars[x.Kids[0]], subject.t, m.use(subject))
			}
			if m.sign != goesOn {
				return nil
			}
			return m.expr(x.Kids[1])
		}), true
	}
	lent, held := subject.t[0] == '&', subject
	if lent {
		held = m.behind(subject)
	}
	at, fits, variable := m.test(x.Kids[0], held)
	if m.sign != goesOn {
		return nil, true
	}
	if !fits {
		return nil, false
	}
	return m.scoped(func() []cell {
		if variable >= 0 && lent {
			m.begin(m.t.Vars[variable], m.t.Types[variable], []cell{{kind: cellPointer, to: at.o, at: at.at}})
		} else if variable >= 0 {
			m.begin(m.t.Vars[variable], at.t, m.use(at))
		}
		if m.sign != goesOn {
			return nil
		}
		return m.expr(x.Kids[1])
	}), true
}

// test tells whether a pattern fits, and, of the variable in it, where its value is, and its node; -1: there is none.
func (m *model) test(n int, p modelPlace) (modelPlace, bool, int) {
	if m.sign != goesOn || !m.tick() {
		return p, false, -1
	}
	x := m.t.Tree.Nodes[n]
	switch x.Kind {
	case api.KPAny:
		return p, true, -1
	case api.KPVar:
		return p, true, n
	}
	c := m.look(p.o, p.at)
	if c.kind == 0 {
		m.undefined()
	}
	if x.Kind != api.KPPick {
		return p, c == numberCell(x.Num)[0], -1
	}
	variants, _ := m.variantsOf(p.t)
	k := slices.IndexFunc(variants, func(v api.Field) bool { return p.t+"::"+v.Name == x.Name })
	if m.sign != goesOn || c != numberCell(int64(k))[0] {
		return p, false, -1
	}
	if len(x.Kids) == 0 {
		return p, true, -1
	}
	return m.test(x.Kids[0], modelPlace{p.o, p.at + 1, variants[k].Type})
}
