package mirtest

import (
	"cmp"
	"slices"

	"patina/api"
)

// Gone is a model of what is gone on one way: places, none within another one.
type Gone []api.Place

// AtFirst is what is gone at a function's beginning: all locals but the parameters.
func AtFirst(f api.MFn) Gone {
	var g Gone
	for k := range f.Locals {
		if k == 0 || k > f.Params {
			g = append(g, api.Place{Local: k})
		}
	}
	return g
}

// Within tells whether a place is within another one.
func Within(p, q api.Place) bool {
	for k, n := range q.Path {
		if k >= len(p.Path) || p.Path[k] != n {
			return false
		}
	}
	return p.Local == q.Local
}

// Has tells whether a place is gone.
func (g Gone) Has(p api.Place) bool {
	return slices.ContainsFunc(g, func(q api.Place) bool { return Within(p, q) })
}

// HasPart tells whether a place is gone, or has a gone part.
func (g Gone) HasPart(p api.Place) bool { return g.Has(p) || len(g.Parts(p)) > 0 }

// Parts are those that are within a place.
func (g Gone) Parts(p api.Place) Gone {
	return slices.DeleteFunc(slices.Clone(g), func(q api.Place) bool { return !Within(q, p) })
}

// without are all but those that are within a place.
func (g Gone) without(p api.Place) Gone {
	return slices.DeleteFunc(slices.Clone(g), func(q api.Place) bool { return Within(q, p) })
}

// With is what is gone where a place goes.
func (g Gone) With(p api.Place) Gone {
	if g.Has(p) {
		return g
	}
	return append(g.without(p), p)
}

// Outer are those that are within no other one, each once, by their locals, then by their paths.
func (g Gone) Outer() Gone {
	all := map[string]int{}
	for _, p := range g {
		all[PlaceText(p)]++
	}
	var l Gone
	for _, p := range g {
		isOuter := true
		for k := range p.Path {
			isOuter = isOuter && all[PlaceText(api.Place{Local: p.Local, Path: p.Path[:k]})] == 0
		}
		if isOuter {
			l = append(l, p)
		}
	}
	order := func(a, b api.Place) int {
		return cmp.Or(cmp.Compare(a.Local, b.Local), slices.Compare(a.Path, b.Path))
	}
	slices.SortFunc(l, order)
	return slices.CompactFunc(l, func(a, b api.Place) bool { return order(a, b) == 0 })
}

// Behind is what is gone behind the statement or end at a point.
func (g Gone) Behind(b api.MBlock, i int) Gone {
	operands := append([]api.Operand{b.Term.Arg}, b.Term.Args...)
	if i < len(b.Stmts) {
		operands = b.Stmts[i].R.Args
	}
	for _, o := range operands {
		if o.Kind == api.OMove {
			g = g.With(o.Place)
		}
	}
	switch {
	case i < len(b.Stmts) && b.Stmts[i].Kind == api.MSet:
		return g.without(b.Stmts[i].Place)
	case i < len(b.Stmts):
		return g.With(b.Stmts[i].Place)
	case b.Term.Kind == api.TCall:
		return g.without(b.Term.Place)
	}
	return g
}
