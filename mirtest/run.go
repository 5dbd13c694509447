package mirtest

import (
	"slices"
	"strconv"

	"patina/api"
	"patina/items"
	"patina/types"
)

// Outcome is how a run ended, what it told, and how many blocks of the heap were left.
type Outcome struct {
	api.Outcome
	Told int64
	Left int
}

// model is a second semantics of MIR, by the chapters' words, over what types and items tell of each type anew.
type model struct {
	m     api.Mir
	in    []byte
	fuel  int
	o     api.Outcome
	calls int
	left  int // blocks of the heap that live
	known map[string]*made
}

// thing is an object; its cells are nil (nothing), numbers (int64), or pointers.
type thing struct {
	cells []any
	ended bool
}

type pointer struct {
	to *thing
	at int
}

// stop leaves a run by a panic, which is caught where it began.
func (m *model) stop(end, code int) {
	m.o.End, m.o.Code = end, code
	panic(end)
}

func (m *model) undefinedIf(is bool) {
	if is {
		m.stop(api.EndUndef, 0)
	}
}

func (m *model) tick() {
	if m.o.Steps == m.fuel {
		m.stop(api.EndFuel, 0)
	}
	m.o.Steps++
}

// Run is what a function of a right program does with numbers.
func Run(x api.Mir, name string, args []int64, in []byte, fuel int) (o Outcome) {
	m := &model{m: x, in: in, fuel: fuel, known: map[string]*made{}}
	defer func() {
		if m.o.End != 0 && o.End == 0 {
			recover()
			o = Outcome{Outcome: m.o, Left: m.left}
		}
	}()
	f, _ := items.Fn(x.Items, name)
	var values [][]any
	for _, n := range args {
		values = append(values, []any{n})
	}
	var v int64
	told := m.call(f, values)
	if len(told) > 0 {
		v = m.number(told[0])
	}
	m.o.End = api.EndDone
	return Outcome{m.o, v, m.left}
}

// made is how values of a type are made up.
type made struct {
	size     int
	owns     bool
	isStruct bool
	isEnum   bool
	parts    []api.Field // fields, or variants
	at       []int       // where fields begin
}

// of is how values of a type are made up, looked up once.
func (m *model) of(t string) *made {
	if d := m.known[t]; d != nil {
		return d
	}
	d := &made{}
	m.known[t] = d
	d.size, _ = types.Words(m.m.Items, t)
	d.owns, _ = types.Owns(m.m.Items, t)
	if s, is := items.Struct(m.m.Items, t); is {
		d.isStruct, d.parts = true, s.Fields
	}
	if e, is := items.Enum(m.m.Items, t); is {
		d.isEnum, d.parts = true, e.Variants
	}
	for k := range d.parts {
		at, _ := types.Offset(m.m.Items, t, k)
		d.at = append(d.at, at)
	}
	return d
}

// cell is a word of an object that lives; nothing, too.
func (m *model) cell(p pointer) any {
	m.undefinedIf(p.to.ended || p.at >= len(p.to.cells))
	return p.to.cells[p.at]
}

func (m *model) something(p pointer) any {
	c := m.cell(p)
	m.undefinedIf(c == nil)
	return c
}

func (m *model) number(c any) int64 {
	n, is := c.(int64)
	m.undefinedIf(!is)
	return n
}

func (m *model) follow(c any) pointer {
	p, is := c.(pointer)
	m.undefinedIf(!is || p.to.ended)
	return p
}

// payload is the type of the payload of the variant that a tag is; empty: it has none.
func (m *model) payload(d *made, tag any) string {
	v := m.number(tag)
	m.undefinedIf(v < 0 || v >= int64(len(d.parts)))
	return d.parts[v].Type
}

func (m *model) read(p pointer, t string) []any {
	m.undefinedIf(p.to.ended)
	d := m.of(t)
	value := make([]any, d.size)
	if d.isStruct {
		for k, f := range d.parts {
			copy(value[d.at[k]:], m.read(pointer{p.to, p.at + d.at[k]}, f.Type))
		}
		return value
	}
	if len(value) == 0 {
		return value
	}
	value[0] = m.something(p)
	if d.isEnum {
		if payload := m.payload(d, value[0]); payload != "" {
			copy(value[1:], m.read(pointer{p.to, p.at + 1}, payload))
		}
	}
	return value
}

func (m *model) empty(p pointer, t string) {
	for k := p.at; k < min(p.at+m.of(t).size, len(p.to.cells)); k++ {
		p.to.cells[k] = nil
	}
}

func (m *model) write(p pointer, value []any) {
	m.undefinedIf(p.to.ended || p.at+len(value) > len(p.to.cells))
	copy(p.to.cells[p.at:], value)
}

func (m *model) drop(p pointer, t string) {
	d := m.of(t)
	if !d.owns {
		return
	}
	if d.isStruct {
		for k, f := range d.parts {
			m.drop(pointer{p.to, p.at + d.at[k]}, f.Type)
		}
		return
	}
	c := m.cell(p)
	if c == nil {
		return
	}
	if d.isEnum {
		if payload := m.payload(d, c); payload != "" {
			m.drop(pointer{p.to, p.at + 1}, payload)
		}
		return
	}
	q := m.follow(c)
	m.tick()
	m.drop(q, inner(t))
	m.endBlock(q.to)
}

func (m *model) endBlock(block *thing) {
	block.ended = true
	m.left--
}

// inner is what a type points to.
func inner(t string) string {
	s, _ := types.Inner(t)
	return s
}

// activation is a call's.
type activation struct {
	*model
	f      api.MFn
	locals []*thing
}

func (x *activation) fresh(local int) *thing {
	return &thing{cells: make([]any, x.of(x.f.Locals[local].Type).size)}
}

func (m *model) call(f int, args [][]any) []any {
	if m.calls++; m.calls > 1000 {
		m.stop(api.EndFuel, 0)
	}
	x := &activation{model: m, f: m.m.Fns[f]}
	for k := range x.f.Locals {
		x.locals = append(x.locals, x.fresh(k))
		if k > 0 && k <= len(args) {
			copy(x.locals[k].cells, args[k-1])
		}
	}
	at := 0
	for at >= 0 {
		b := x.f.Blocks[at]
		for _, s := range b.Stmts {
			m.tick()
			x.statement(s)
		}
		m.tick()
		at = x.end(b.Term)
	}
	told := m.read(pointer{x.locals[0], 0}, x.f.Locals[0].Type)
	for _, o := range x.locals {
		o.ended = true
	}
	m.calls--
	return told
}

func (x *activation) place(p api.Place) (pointer, string) {
	q, t := pointer{x.locals[p.Local], 0}, x.f.Locals[p.Local].Type
	for _, step := range p.Path {
		d := x.of(t)
		switch {
		case step == -1:
			q, t = x.follow(x.something(q)), inner(t)
		case step < -1:
			x.undefinedIf(x.something(q) != int64(-2-step))
			q.at++
			t = d.parts[-2-step].Type
		default:
			q.at += d.at[step]
			t = d.parts[step].Type
		}
	}
	return q, t
}

func (x *activation) operand(o api.Operand) []any {
	switch o.Kind {
	case api.ONum, api.OTruth:
		return []any{o.Num}
	case api.OUnit:
		return nil
	}
	p, t := x.place(o.Place)
	value := x.read(p, t)
	if o.Kind == api.OMove {
		x.empty(p, t)
	}
	return value
}

func (x *activation) rvalue(r api.Rvalue) []any {
	var args []any
	for _, o := range r.Args {
		args = append(args, x.operand(o)...)
	}
	switch r.Kind {
	case api.RBin:
		return []any{x.sign(r.Op, x.number(args[0]), x.number(args[1]))}
	case api.RNeg:
		return []any{x.sign("-", 0, x.number(args[0]))}
	case api.RNot:
		return []any{x.sign("!=", x.number(args[0]), 1)}
	case api.RRef, api.RMut:
		p, _ := x.place(r.Place)
		x.undefinedIf(p.to.ended)
		return []any{p}
	case api.RBox:
		x.left++
		return []any{pointer{&thing{cells: args}, 0}}
	case api.RPick:
		value := make([]any, x.of(r.Name).size)
		copy(value, append([]any{int64(r.Variant)}, args...))
		return value
	case api.RTag:
		p, _ := x.place(r.Place)
		return []any{x.something(p)}
	}
	return args
}

func (x *activation) statement(s api.MStmt) {
	local := s.Place.Local
	switch s.Kind {
	case api.MSet:
		value := x.rvalue(s.R)
		p, _ := x.place(s.Place)
		x.write(p, value)
	case api.MDrop:
		p, t := x.place(s.Place)
		x.undefinedIf(p.to.ended)
		x.drop(p, t)
		x.empty(p, t)
	case api.MFree:
		p, t := x.place(s.Place)
		x.endBlock(x.follow(x.something(p)).to)
		x.empty(p, t)
	case api.MLive:
		x.locals[local].ended = true
		x.locals[local] = x.fresh(local)
	case api.MDead:
		x.locals[local].ended = true
	}
}

// end is the block behind one; -1: the call is back.
func (x *activation) end(t api.MTerm) int {
	switch t.Kind {
	case api.TIf:
		if x.number(x.operand(t.Arg)[0]) != 1 {
			return t.To[1]
		}
	case api.TSwitch:
		c := x.operand(t.Arg)[0]
		if k := slices.IndexFunc(t.Values, func(n int64) bool { return c == n }); k >= 0 {
			return t.To[k]
		}
		return t.To[len(t.Values)]
	case api.TCall:
		told := x.callOf(t)
		p, _ := x.place(t.Place)
		x.write(p, told)
	case api.TReturn:
		return -1
	case api.TPanic:
		x.stop(api.EndDone, t.Code)
	}
	return t.To[0]
}

func (x *activation) callOf(t api.MTerm) []any {
	var args [][]any
	for _, o := range t.Args {
		args = append(args, x.operand(o))
	}
	switch t.Name {
	case "print":
		x.o.Out = append(strconv.AppendInt(x.o.Out, x.number(args[0][0]), 10), '\n')
		return nil
	case "read":
		if len(x.in) == 0 {
			return []any{int64(-1)}
		}
		b := x.in[0]
		x.in = x.in[1:]
		return []any{int64(b)}
	}
	f, _ := items.Fn(x.m.Items, t.Name)
	return x.call(f, args)
}
