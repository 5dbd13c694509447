package mir

import (
	"patina/api"
	"patina/items"
	"patina/lookup"
)

// statement tells whether a statement is right.
func (c *checker) statement(s api.MStmt) bool {
	t := c.place(s.Place)
	if t == "" {
		return false
	}
	switch s.Kind {
	case api.MSet:
		return c.sets(s.R, t)
	case api.MFree:
		if !lookup.IsBox(t) {
			return false
		}
		fallthrough
	case api.MDrop:
		return c.types.Owns(t) && isNothing(s.R)
	case api.MLive, api.MDead:
		return len(s.Place.Path) == 0 && isNothing(s.R)
	}
	return false
}

func isNothing(r api.Rvalue) bool { return sameRvalue(r, api.Rvalue{}) }

// end tells whether a block's end is right.
func (c *checker) end(t api.MTerm) bool {
	if !noMoreOf(t) {
		return false
	}
	for _, to := range t.To {
		if to < 0 || to >= c.blocks {
			return false
		}
	}
	switch t.Kind {
	case api.TGoto:
		return len(t.To) == 1
	case api.TIf:
		return len(t.To) == 2 && c.operand(t.Arg) == lookup.Truth
	case api.TSwitch:
		return len(t.To) == len(t.Values)+1 && c.operand(t.Arg) == lookup.Number && rise(t.Values)
	case api.TCall:
		return len(t.To) == 1 && c.call(t)
	case api.TPanic:
		return t.Code == api.ExitOverflow || t.Code == api.ExitDivide || t.Code == api.ExitPanic
	}
	return t.Kind == api.TReturn
}

// noMoreOf tells whether the fields that an end's Kind does not name are zero or empty.
func noMoreOf(t api.MTerm) bool {
	rest := t
	rest.Kind = 0
	switch t.Kind {
	case api.TSwitch:
		rest.Values = nil
		fallthrough
	case api.TIf:
		rest.Arg = api.Operand{}
		fallthrough
	case api.TGoto:
		rest.To = nil
	case api.TCall:
		rest.Name, rest.Args, rest.Place, rest.To = "", nil, api.Place{}, nil
	case api.TPanic:
		rest.Code = 0
	}
	return sameEnd(rest, api.MTerm{})
}

// rise tells whether each number is greater than the one ahead of it.
func rise(l []int64) bool {
	for k := 1; k < len(l); k++ {
		if l[k] <= l[k-1] {
			return false
		}
	}
	return true
}

// call tells whether there is what a call calls, with such operands and such a result.
func (c *checker) call(t api.MTerm) bool {
	switch t.Name {
	case "print":
		return c.operands(t.Args, lookup.Number) && c.place(t.Place) == lookup.Unit
	case "read":
		return len(t.Args) == 0 && c.place(t.Place) == lookup.Number
	}
	k, there := items.Fn(c.items, t.Name)
	if !there {
		return false
	}
	of := c.items.Fns[k]
	return c.operands(t.Args, typesOf(of.Params)...) && c.place(t.Place) == of.Ret
}
