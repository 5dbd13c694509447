package mirtest

import (
	"slices"

	"patina/api"
	"patina/lookup"
	"patina/types"
)

// Maker makes MIR that is right, by choices.
type Maker struct {
	Choose func(n int) int // a number from 0 on, below n
	Plain  bool            // no references, no places of payloads; no MLive, MDead, MFree, and no MDrop behind a Box
	Copied bool            // no types of locals but those that are copied; nothing but MSet
	Onward bool            // ends lead to blocks further on, but for few, so that runs end; there are more blocks

	types  *lookup.Types
	items  api.Items
	f      *api.MFn // at hand
	at     int      // the block of it at hand
	places []spot   // of it
}

// spot is a place and its type.
type spot struct {
	place api.Place
	t     string
}

func (m *Maker) one(in int) bool { return m.Choose(in) == 0 }

func (m *Maker) itemsOf() api.Items {
	it := Items()
	if m.Plain {
		it = PlainItems()
	}
	if m.Copied {
		it.Fns = []api.Fn{function(0, "sum", "i64", "i64", "i64"), function(1, "main", "()"), function(2, "q", "&i64", "&i64", "bool", "&bool"), function(3, "n", "()", "()", "&()")}
	}
	return it
}

func (m *Maker) localTypes() []string {
	l := []string{"i64", "bool", "()", "Box<i64>", "S", "E", "P", "Box<S>", "L", "Box<L>", "X", "N", "Box<Box<i64>>", "Box<()>"}
	if m.Copied {
		return []string{"i64", "i64", "bool", "()", "&i64", "&i64", "&bool", "&()"}
	}
	if !m.Plain {
		l = append(l, "&i64", "&S", "&mut S", "&E", "&mut E", "&mut P", "&mut L", "&mut X", "&Box<i64>", "&mut Box<L>", "&mut i64", "&bool")
	}
	return l
}

// Program is MIR with all functions of the items.
func (m *Maker) Program() api.Mir {
	m.items = m.itemsOf()
	m.types = lookup.New(m.items)
	x := api.Mir{Items: m.items}
	for _, f := range m.items.Fns {
		x.Fns = append(x.Fns, m.function(f))
	}
	Number(x)
	return x
}

func (m *Maker) function(of api.Fn) api.MFn {
	most := 6
	if m.Onward {
		most = 16
	}
	f := api.MFn{Name: of.Name, Params: len(of.Params), Locals: []api.Local{{Type: of.Ret}}, Blocks: make([]api.MBlock, 1+m.Choose(most))}
	for _, p := range of.Params {
		f.Locals = append(f.Locals, api.Local{Type: p.Type})
	}
	for _, t := range m.localTypes() {
		for m.one(2) {
			f.Locals = append(f.Locals, api.Local{Type: t})
		}
	}
	m.f = &f
	m.places = m.spots()
	first := m.beginning()
	for k := range f.Blocks {
		m.at = k
		for range m.Choose(6) {
			if s, made := m.statement(); made {
				first = append(first, s)
			}
		}
		f.Blocks[k] = api.MBlock{Stmts: first, Term: m.end()}
		first = nil
	}
	return f
}

// beginning sets most locals but the parameters, or all.
func (m *Maker) beginning() []api.MStmt {
	var l []api.MStmt
	for k := range m.f.Locals {
		if (k == 0 || k > m.f.Params) && (m.Copied || !m.one(8)) {
			l = append(l, m.fill(k)...)
		}
	}
	return l
}

// spots are all places of the function at hand to which some steps lead.
func (m *Maker) spots() []spot {
	var l []spot
	for k, local := range m.f.Locals {
		l = append(l, spot{api.Place{Local: k}, local.Type})
	}
	from := 0
	for range 4 {
		end := len(l)
		for _, s := range l[from:end] {
			l = append(l, m.within(s)...)
		}
		from = end
	}
	return l
}

// within are the places one step behind a place.
func (m *Maker) within(s spot) []spot {
	if inner, points := types.Inner(s.t); points {
		return []spot{s.step(-1, inner)}
	}
	var l []spot
	parts, _ := m.types.Fields(s.t)
	for k, f := range parts {
		l = append(l, s.step(k, f.Type))
	}
	parts, _ = m.types.Variants(s.t)
	for k, v := range parts {
		if v.Type != "" && !m.Plain {
			l = append(l, s.step(-2-k, v.Type))
		}
	}
	return l
}

func (s spot) step(number int, t string) spot {
	return spot{api.Place{Local: s.place.Local, Path: append(slices.Clone(s.place.Path), number)}, t}
}

// spot is one of the places that fit, if there are any.
func (m *Maker) spot(fits func(s spot) bool) (spot, bool) {
	var l []spot
	for _, s := range m.places {
		if fits(s) {
			l = append(l, s)
		}
	}
	if len(l) == 0 {
		return spot{}, false
	}
	s := l[m.Choose(len(l))]
	return spot{api.Place{Local: s.place.Local, Path: slices.Clone(s.place.Path)}, s.t}, true
}

func (m *Maker) spotOf(t string) (spot, bool) {
	return m.spot(func(s spot) bool { return s.t == t })
}
