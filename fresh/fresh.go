// Package fresh is no layer: it is MIR and its parts in new memory, for layers that hand it on.
package fresh

import (
	"slices"

	"patina/api"
)

// Items are the same items.
func Items(it api.Items) api.Items {
	c := api.Items{Structs: slices.Clone(it.Structs), Enums: slices.Clone(it.Enums), Fns: slices.Clone(it.Fns)}
	for k := range c.Structs {
		c.Structs[k].Fields = slices.Clone(c.Structs[k].Fields)
	}
	for k := range c.Enums {
		c.Enums[k].Variants = slices.Clone(c.Enums[k].Variants)
	}
	for k := range c.Fns {
		c.Fns[k].Params = slices.Clone(c.Fns[k].Params)
		c.Fns[k].Muts = slices.Clone(c.Fns[k].Muts)
	}
	return c
}

// Place is the same place.
func Place(p api.Place) api.Place { return api.Place{Local: p.Local, Path: slices.Clone(p.Path)} }

// Places are the same places.
func Places(l []api.Place) []api.Place {
	c := slices.Clone(l)
	for k := range c {
		c[k] = Place(c[k])
	}
	return c
}

// Statement is the same statement.
func Statement(s api.MStmt) api.MStmt {
	s.Place = Place(s.Place)
	s.R.Place = Place(s.R.Place)
	s.R.Args = operands(s.R.Args)
	return s
}

// End is the same end of a block.
func End(t api.MTerm) api.MTerm {
	t.Arg.Place = Place(t.Arg.Place)
	t.Values = slices.Clone(t.Values)
	t.To = slices.Clone(t.To)
	t.Args = operands(t.Args)
	t.Place = Place(t.Place)
	return t
}

func operands(l []api.Operand) []api.Operand {
	c := slices.Clone(l)
	for k := range c {
		c[k].Place = Place(c[k].Place)
	}
	return c
}

// Function is the same function.
func Function(f api.MFn) api.MFn {
	f.Locals = slices.Clone(f.Locals)
	f.Blocks = slices.Clone(f.Blocks)
	for k := range f.Blocks {
		b := &f.Blocks[k]
		b.Stmts = slices.Clone(b.Stmts)
		for i := range b.Stmts {
			b.Stmts[i] = Statement(b.Stmts[i])
		}
		b.Term = End(b.Term)
	}
	return f
}
