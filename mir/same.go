package mir

import (
	"slices"

	"patina/api"
)

// withoutNodes are items whose functions have no places in a tree.
func withoutNodes(it api.Items) api.Items {
	it.Fns = slices.Clone(it.Fns)
	for k := range it.Fns {
		it.Fns[k].Node = 0
	}
	return it
}

func sameFunction(a, b api.MFn) bool {
	return a.Name == b.Name && a.Params == b.Params && slices.Equal(a.Locals, b.Locals) && slices.EqualFunc(a.Blocks, b.Blocks, sameBlock)
}

func sameBlock(a, b api.MBlock) bool {
	return slices.EqualFunc(a.Stmts, b.Stmts, sameStatement) && sameEnd(a.Term, b.Term)
}

func sameStatement(a, b api.MStmt) bool {
	return a.Kind == b.Kind && samePlace(a.Place, b.Place) && sameRvalue(a.R, b.R)
}

func sameEnd(a, b api.MTerm) bool {
	return a.Kind == b.Kind && sameOperand(a.Arg, b.Arg) && slices.Equal(a.Values, b.Values) && slices.Equal(a.To, b.To) &&
		a.Name == b.Name && slices.EqualFunc(a.Args, b.Args, sameOperand) && samePlace(a.Place, b.Place) && a.Code == b.Code
}

func sameRvalue(a, b api.Rvalue) bool {
	return a.Kind == b.Kind && a.Op == b.Op && slices.EqualFunc(a.Args, b.Args, sameOperand) && samePlace(a.Place, b.Place) &&
		a.Name == b.Name && a.Variant == b.Variant
}

func sameOperand(a, b api.Operand) bool {
	return a.Kind == b.Kind && samePlace(a.Place, b.Place) && a.Num == b.Num
}

func samePlace(a, b api.Place) bool { return a.Local == b.Local && slices.Equal(a.Path, b.Path) }
