package tree

import (
	"math"
	"slices"
	"strings"

	"patina/api"
	"patina/lex"
)

// mostDepth is how deep a node may stand.
const mostDepth = 4 * api.MaxDeep

// right tells whether nodes are those of a tree that is right.
func right(nodes []api.Node) bool {
	if len(nodes) == 0 || len(nodes) > api.MaxNodes || nodes[len(nodes)-1].Kind != api.KCrate {
		return false
	}
	parents, ok := parentsOf(nodes)
	if !ok || depthOf(parents) > mostDepth {
		return false
	}
	for _, n := range nodes {
		if n.From < 0 || n.From > n.To || !nameFits(n) || !numFits(n) || !kidsFit(nodes, n) {
			return false
		}
	}
	return true
}

// parentsOf are the nodes that each is a kid of; false: one but the last is not a kid of just one node behind it.
func parentsOf(nodes []api.Node) ([]int, bool) {
	parents := slices.Repeat([]int{-1}, len(nodes))
	for k, n := range nodes {
		for _, kid := range n.Kids {
			if kid < 0 || kid >= k || parents[kid] >= 0 {
				return nil, false
			}
			parents[kid] = k
		}
	}
	return parents, !slices.Contains(parents[:len(nodes)-1], -1)
}

// depthOf is how deep the deepest node stands below the last one.
func depthOf(parents []int) int {
	depths := make([]int, len(parents))
	for k := len(parents) - 2; k >= 0; k-- { // a parent's depth is there ahead of its kids'
		depths[k] = depths[parents[k]] + 1
	}
	return slices.Max(depths)
}

func nameFits(n api.Node) bool {
	switch n.Kind {
	case api.KFn, api.KStruct, api.KEnum, api.KField, api.KVariant, api.KParam, api.KTyName, api.KLet,
		api.KVar, api.KCall, api.KMake, api.KInit, api.KGet, api.KPVar:
		return lex.Name(n.Name)
	case api.KPick, api.KPPick:
		enum, variant, two := strings.Cut(n.Name, "::")
		return two && lex.Name(enum) && lex.Name(variant)
	case api.KBin:
		return isSign(n.Name)
	}
	return n.Name == ""
}

// isSign tells whether a text is a sign of two.
func isSign(s string) bool {
	switch s {
	case "||", "&&", "==", "!=", "<", ">", "<=", ">=", "+", "-", "*", "/", "%":
		return true
	}
	return false
}

func numFits(n api.Node) bool {
	switch n.Kind {
	case api.KFn: // it goes with the kids
		return true
	case api.KParam, api.KBlock, api.KLet, api.KTruth, api.KBorrow, api.KPTruth:
		return n.Num == 0 || n.Num == 1
	case api.KNum:
		return n.Num >= 0
	case api.KPNum:
		return n.Num != math.MinInt64
	}
	return n.Num == 0
}

// kidsFit tells whether a node's kids are of the kinds that its own kind asks for.
func kidsFit(nodes []api.Node, n api.Node) bool {
	are := func(groups ...group) bool { return kindsAre(nodes, n.Kids, groups...) }
	all := func(g group) bool { return kindsAll(nodes, n.Kids, g) }
	switch n.Kind {
	case api.KCrate:
		return all(anItem)
	case api.KFn:
		params, rest := cut(n.Kids, 2)
		return int64(len(params)) == n.Num && kindsAll(nodes, params, aParam) && kindsAre(nodes, rest, aType, aBlock)
	case api.KStruct:
		return all(aField)
	case api.KEnum:
		return all(aVariant)
	case api.KVariant:
		if len(n.Kids) == 0 {
			return true
		}
		fallthrough
	case api.KField, api.KParam, api.KTyRef, api.KTyMut, api.KTyBox:
		return are(aType)
	case api.KBlock:
		statements, told := cut(n.Kids, int(n.Num))
		return int64(len(told)) == n.Num && kindsAll(nodes, statements, aStatement) && kindsAll(nodes, told, anExpr)
	case api.KCall:
		return all(anExpr)
	case api.KMake:
		return all(anInit)
	case api.KLet:
		return are(anExpr) || are(aType, anExpr)
	case api.KReturn, api.KPick:
		if len(n.Kids) == 0 {
			return true
		}
		fallthrough
	case api.KDo, api.KInit, api.KGet, api.KNeg, api.KNot, api.KStar, api.KBorrow, api.KNew:
		return are(anExpr)
	case api.KSet, api.KBin:
		return are(anExpr, anExpr)
	case api.KWhile:
		return are(anExpr, aBlock)
	case api.KIf:
		return are(anExpr, aBlock) || are(anExpr, aBlock, aBranch)
	case api.KMatch:
		return len(n.Kids) > 0 && kindsAre(nodes, n.Kids[:1], anExpr) && kindsAll(nodes, n.Kids[1:], anArm)
	case api.KArm:
		return are(aPattern, anExpr)
	case api.KPPick:
		return len(n.Kids) == 0 || are(aPattern)
	case api.KTyInt, api.KTyBool, api.KTyUnit, api.KTyName, api.KBreak, api.KNext,
		api.KNum, api.KTruth, api.KNil, api.KVar, api.KPAny, api.KPVar, api.KPNum, api.KPTruth:
		return len(n.Kids) == 0
	}
	return false
}

// cut are a list's elements but its last so many, and those; fewer, if it has fewer.
func cut(kids []int, last int) ([]int, []int) {
	at := max(len(kids)-last, 0)
	return kids[:at], kids[at:]
}

// kindsAre tells whether there is one kid for each group, of that group.
func kindsAre(nodes []api.Node, kids []int, groups ...group) bool {
	return slices.EqualFunc(kids, groups, func(kid int, g group) bool { return g.has(nodes[kid].Kind) })
}

// kindsAll tells whether all kids are of one group.
func kindsAll(nodes []api.Node, kids []int, g group) bool {
	for _, kid := range kids {
		if !g.has(nodes[kid].Kind) {
			return false
		}
	}
	return true
}
