// Package sourcetest is no layer: it has sources for the tests of layers that take trees, made by choices.
package sourcetest

import (
	"slices"
	"strconv"
	"strings"

	"patina/api"
)

// Maker makes sources that can be typed, and mostly do something ahead of their end, by choices.
type Maker struct {
	Choose func(n int) int // a number from 0 on, below n
	Plain  bool            // without references, Boxes, and uses of what may be moved

	vars  []api.Local // those that are seen
	moved []string    // whose names are better left alone
	fns   []string    // that may be called
	ret   string
	loops int
	count int
}

func pick[T any](m *Maker, l ...T) T { return l[m.Choose(len(l))] }

func (m *Maker) one(in int) bool { return m.Choose(in) == 0 }

// may tells whether a function may be called.
func (m *Maker) may(name string) bool { return slices.Contains(m.fns, name) }

func (m *Maker) plainType() string {
	if m.Plain {
		return pick(m, "i64", "i64", "bool", "()", "D", "Y")
	}
	t := pick(m, "i64", "i64", "i64", "bool", "()", "S", "S", "P", "N", "E", "E", "L", "O", "X")
	for m.one(4) {
		t = "Box<" + t + ">"
	}
	return t
}

func (m *Maker) aType() string {
	if m.Plain {
		return m.plainType()
	}
	return pick(m, "", "", "", "&", "&mut ") + m.plainType()
}

func (m *Maker) name() string {
	m.count++
	return pick(m, "a", "b", "v"+strconv.Itoa(m.count), "v"+strconv.Itoa(m.count))
}

// declared is the name of a new variable, of which nothing was moved yet.
func (m *Maker) declared(t string, mut bool) string {
	name := m.name()
	m.vars = append(m.vars, api.Local{Name: name, Type: t, Mut: mut})
	m.moved = slices.DeleteFunc(m.moved, func(s string) bool { return s == name })
	return name
}

// Source is a source with bodies of so much measure.
func (m *Maker) Source(measure int) string {
	var s strings.Builder
	if m.Plain {
		s.WriteString(plainTypes)
	} else {
		s.WriteString(Types)
	}
	var ahead []string
	for _, f := range Functions() {
		if m.Plain && !slices.Contains([]string{"f", "u", "two", "main"}, f.Name) {
			continue
		}
		calls := ahead
		ahead = append(slices.Clone(ahead), f.Name)
		if m.one(10) {
			calls = ahead
		}
		s.WriteString(m.Function(f, measure, calls...))
	}
	return s.String()
}

// Function is a function with a body of so much measure, that calls those of some names.
func (m *Maker) Function(f api.Fn, measure int, calls ...string) string {
	m.fns = calls
	m.vars, m.moved, m.ret, m.loops = nil, nil, f.Ret, 0
	var params []string
	for k, p := range f.Params {
		m.vars = append(m.vars, api.Local{Name: p.Name, Type: p.Type, Mut: f.Muts[k]})
		params = append(params, mutWord(f.Muts[k])+p.Name+": "+p.Type)
	}
	var s strings.Builder
	s.WriteString("fn " + f.Name + "(" + strings.Join(params, ", ") + ") -> " + f.Ret + " { ")
	for range 1 + m.Choose(4) {
		s.WriteString(m.let(m.plainType(), measure) + " ")
	}
	for range m.Choose(5) {
		s.WriteString(m.statement(measure) + " ")
	}
	s.WriteString(m.expr(f.Ret, measure) + " } ")
	return s.String()
}

// mutWord is what stands ahead of the name of a variable that may be changed.
func mutWord(mut bool) string {
	if mut {
		return "mut "
	}
	return ""
}
