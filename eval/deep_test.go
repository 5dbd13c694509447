package eval

import (
	"testing"

	"patina/api"
	"patina/check"
	"patina/tree"
)

// grown is a tree that is put together node by node.
type grown struct{ nodes []api.Node }

func (g *grown) add(kind int, num int64, kids ...int) int {
	g.nodes = append(g.nodes, api.Node{Kind: kind, Num: num, Kids: kids})
	return len(g.nodes) - 1
}

func (g *grown) named(kind int, name string, kids ...int) int {
	n := g.add(kind, 0, kids...)
	g.nodes[n].Name = name
	return n
}

// calling is a tree in which main calls f, and f calls itself from as deep within something as it may stand.
func calling(deeper func(g *grown, n int) int) (api.Typed, bool) {
	last, right := api.Typed{}, false
	for depth := 1; depth < 4*api.MaxDeep; depth++ {
		g := &grown{}
		n := g.named(api.KCall, "f")
		for range depth {
			n = deeper(g, n)
		}
		f := g.named(api.KFn, "f", g.add(api.KTyUnit, 0), g.add(api.KBlock, 1, n))
		m := g.named(api.KFn, "main", g.add(api.KTyUnit, 0), g.add(api.KBlock, 1, g.named(api.KCall, "f")))
		g.add(api.KCrate, 0, f, m)
		t := api.Tree{Nodes: g.nodes}
		if tree.Check(t) != api.OK {
			break
		}
		u, d := check.Of(t)
		if d.Code != api.OK {
			break
		}
		last, right = u, true
	}
	return last, right
}

// P1: as many calls as may be in one another, each from as deep as a tree may be.
func TestDeep(t *testing.T) {
	for name, deeper := range map[string]func(g *grown, n int) int{
		"block": func(g *grown, n int) int { return g.add(api.KBlock, 1, n) },
		"do":    func(g *grown, n int) int { return g.add(api.KBlock, 0, g.add(api.KDo, 0, n)) },
		"let":   func(g *grown, n int) int { return g.add(api.KBlock, 0, g.named(api.KLet, "x", n)) },
		"match": func(g *grown, n int) int {
			return g.add(api.KMatch, 0, g.add(api.KNum, 1), g.add(api.KArm, 0, g.add(api.KPAny, 0), n))
		},
		"subject": func(g *grown, n int) int {
			return g.add(api.KMatch, 0, n, g.add(api.KArm, 0, g.named(api.KPVar, "x"), g.add(api.KNil, 0)))
		},
		"if": func(g *grown, n int) int {
			return g.add(api.KIf, 0, g.add(api.KTruth, 1), g.add(api.KBlock, 1, n))
		},
		"while": func(g *grown, n int) int {
			return g.add(api.KBlock, 0, g.add(api.KWhile, 0, g.add(api.KTruth, 1), g.add(api.KBlock, 1, n)))
		},
	} {
		u, right := calling(deeper)
		if !right {
			t.Fatal(name)
		}
		o, e := Run(u, nil, 1<<40)
		if e != api.OK || o.End != api.EndFuel || o.Steps < 150*MaxCalls {
			t.Error(name, o, e)
		}
	}
}
