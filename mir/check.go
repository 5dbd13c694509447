package mir

import (
	"patina/api"
	"patina/items"
	"patina/lookup"
	"patina/types"
)

// checker holds a function to the rules of what is right.
type checker struct {
	items  api.Items
	types  *lookup.Types
	locals []api.Local
	blocks int // how many there are
}

func isRight(m api.Mir) bool {
	if items.Check(m.Items) != api.OK || len(m.Fns) != len(m.Items.Fns) {
		return false
	}
	known := lookup.New(m.Items)
	for k, f := range m.Fns {
		c := checker{m.Items, known, f.Locals, len(f.Blocks)}
		if !c.head(f, m.Items.Fns[k]) || !c.body(f.Blocks) {
			return false
		}
	}
	return true
}

// head tells whether a function is the one that the items have, as far as its locals tell.
func (c *checker) head(f api.MFn, of api.Fn) bool {
	if f.Name != of.Name || f.Params != len(of.Params) || len(f.Locals) <= f.Params || len(f.Locals) > MaxTemps || f.Locals[0].Type != of.Ret {
		return false
	}
	for k, p := range of.Params {
		if f.Locals[1+k].Type != p.Type {
			return false
		}
	}
	for _, l := range f.Locals {
		if len(l.Name) > api.MaxName || !c.types.Right(l.Type) {
			return false
		}
	}
	return true
}

func (c *checker) body(blocks []api.MBlock) bool {
	if len(blocks) < 1 || len(blocks) > api.MaxBlocks {
		return false
	}
	for _, b := range blocks {
		if len(b.Stmts) > api.MaxNodes || !c.end(b.Term) {
			return false
		}
		for _, s := range b.Stmts {
			if !c.statement(s) {
				return false
			}
		}
	}
	return true
}

// place is the type of a place; empty: it is none.
func (c *checker) place(p api.Place) string {
	if p.Local < 0 || p.Local >= len(c.locals) {
		return ""
	}
	t, _ := c.types.At(c.locals[p.Local].Type, p.Path)
	return t
}

func isBare(p api.Place) bool { return samePlace(p, api.Place{}) }

// operand is the type of an operand; empty: it is not right.
func (c *checker) operand(o api.Operand) string {
	switch {
	case o.Kind == api.OCopy || o.Kind == api.OMove:
		if t := c.place(o.Place); o.Num == 0 && c.types.Copied(t) == (o.Kind == api.OCopy) {
			return t
		}
	case !isBare(o.Place):
	case o.Kind == api.ONum:
		return lookup.Number
	case o.Kind == api.OTruth && (o.Num == 0 || o.Num == 1):
		return lookup.Truth
	case o.Kind == api.OUnit && o.Num == 0:
		return lookup.Unit
	}
	return ""
}

// operands tells whether operands are right, and of these types.
func (c *checker) operands(l []api.Operand, want ...string) bool {
	if len(l) != len(want) {
		return false
	}
	for k, o := range l {
		if want[k] == "" || c.operand(o) != want[k] {
			return false
		}
	}
	return true
}

// sets tells whether an rvalue is right, and of a type that there is.
func (c *checker) sets(r api.Rvalue, want string) bool {
	if !noMore(r) {
		return false
	}
	inner, _ := types.Inner(want)
	ref, mut := types.Ref(want)
	switch r.Kind {
	case api.RUse:
		return c.operands(r.Args, want)
	case api.RBin:
		return c.binary(r, want)
	case api.RNeg:
		return want == lookup.Number && c.operands(r.Args, want)
	case api.RNot:
		return want == lookup.Truth && c.operands(r.Args, want)
	case api.RRef, api.RMut: // what a reference points to has none in it
		return ref && mut == (r.Kind == api.RMut) && c.place(r.Place) == inner
	case api.RBox:
		return lookup.IsBox(want) && c.operands(r.Args, inner)
	case api.RMake:
		fields, there := c.types.Fields(r.Name)
		return there && r.Name == want && c.operands(r.Args, typesOf(fields)...)
	case api.RPick:
		variants, there := c.types.Variants(r.Name)
		return there && r.Name == want && r.Variant >= 0 && r.Variant < len(variants) && c.payload(r.Args, variants[r.Variant].Type)
	case api.RTag:
		_, there := c.types.Variants(c.place(r.Place))
		return there && want == lookup.Number
	}
	return false
}

// noMore tells whether the fields that an rvalue's Kind does not name are zero or empty.
func noMore(r api.Rvalue) bool {
	rest := r
	rest.Kind = 0
	switch r.Kind {
	case api.RPick:
		rest.Variant = 0
		fallthrough
	case api.RMake:
		rest.Name = ""
		fallthrough
	case api.RUse, api.RNeg, api.RNot, api.RBox:
		rest.Args = nil
	case api.RBin:
		rest.Op, rest.Args = "", nil
	case api.RRef, api.RMut, api.RTag:
		rest.Place = api.Place{}
	}
	return sameRvalue(rest, api.Rvalue{})
}

// binary tells whether a sign makes a value of a type of two operands.
func (c *checker) binary(r api.Rvalue, want string) bool {
	told := lookup.Truth
	switch r.Op {
	case "==", "!=":
		if want == told && c.operands(r.Args, lookup.Truth, lookup.Truth) {
			return true
		}
	case "+", "-", "*", "/", "%":
		told = lookup.Number
	case "<", "<=", ">", ">=":
	default:
		return false
	}
	return want == told && c.operands(r.Args, lookup.Number, lookup.Number)
}

// payload tells whether operands are what a variant holds: one of a type, or none, where that is empty.
func (c *checker) payload(l []api.Operand, of string) bool {
	if of == "" {
		return len(l) == 0
	}
	return c.operands(l, of)
}

func typesOf(fields []api.Field) []string {
	var l []string
	for _, f := range fields {
		l = append(l, f.Type)
	}
	return l
}
