package tree

import (
	"math"
	"math/rand"
	"slices"
	"strconv"
	"strings"

	"patina/api"
)

// maker makes right trees at random, each part with the text that it must be printed as.
type maker struct {
	r     *rand.Rand
	nodes []api.Node
}

// made is a node's place, its kind, and its text.
type made struct {
	at, kind int
	text     string
}

func joined(texts ...string) string {
	return strings.Join(slices.DeleteFunc(texts, func(s string) bool { return s == "" }), " ")
}

func (m *maker) put(kind int, name string, num int64, text string, kids ...made) made {
	n := api.Node{Kind: kind, Name: name, Num: num, From: m.r.Intn(50)}
	n.To = n.From + m.r.Intn(5)
	for _, k := range kids {
		n.Kids = append(n.Kids, k.at)
	}
	m.nodes = append(m.nodes, n)
	return made{len(m.nodes) - 1, kind, text}
}

// operand is the text of one: in parentheses, but of some kinds.
func (x made) operand(but ...int) string {
	but = append(but, api.KNum, api.KTruth, api.KNil, api.KVar, api.KCall, api.KPick, api.KNew)
	if slices.Contains(but, x.kind) {
		return x.text
	}
	return "( " + x.text + " )"
}

func pick[T any](m *maker, l ...T) T { return l[m.r.Intn(len(l))] }

func (m *maker) name() string {
	return pick(m, "a", "b", "x", "S", "E", "V", "new", "print", "_q", "fnx", "i640", "Boxed", strings.Repeat("n", api.MaxName))
}

func (m *maker) flag(word string) (int64, string) {
	if m.r.Intn(2) == 0 {
		return 0, ""
	}
	return 1, word
}

// several are so many parts, and their texts with something between.
func several(n int, between string, make func() made) ([]made, string) {
	var l []made
	var texts []string
	for range n {
		x := make()
		l = append(l, x)
		texts = append(texts, x.text)
	}
	return l, strings.Join(texts, between)
}

func (m *maker) aType(measure int) made {
	if measure > 0 {
		x := m.aType(measure - 1)
		switch m.r.Intn(3) {
		case 0:
			return m.put(api.KTyRef, "", 0, "& "+x.text, x)
		case 1:
			return m.put(api.KTyMut, "", 0, "& mut "+x.text, x)
		}
		return m.put(api.KTyBox, "", 0, "Box < "+x.text+" >", x)
	}
	name := m.name()
	return pick(m,
		func() made { return m.put(api.KTyInt, "", 0, "i64") }, func() made { return m.put(api.KTyBool, "", 0, "bool") },
		func() made { return m.put(api.KTyUnit, "", 0, "( )") }, func() made { return m.put(api.KTyName, name, 0, name) })()
}

func truthText(num int64) string { return []string{"false", "true"}[num] }

func (m *maker) pattern(measure int) made {
	name := m.name()
	if measure > 0 {
		x := m.pattern(measure - 1)
		return m.put(api.KPPick, "E::"+name, 0, "E :: "+name+" ( "+x.text+" )", x)
	}
	num, _ := m.flag("")
	number := pick[int64](m, 0, 1, -1, 42, -42, math.MaxInt64, -math.MaxInt64)
	digits := strings.Replace(strconv.FormatInt(number, 10), "-", "- ", 1)
	return pick(m,
		func() made { return m.put(api.KPAny, "", 0, "_") }, func() made { return m.put(api.KPVar, name, 0, name) },
		func() made { return m.put(api.KPNum, "", number, digits) }, func() made { return m.put(api.KPTruth, "", num, truthText(num)) },
		func() made { return m.put(api.KPPick, name+"::new", 0, name+" :: new") })()
}

func (m *maker) leaf() made {
	name := m.name()
	num, _ := m.flag("")
	number := pick[int64](m, 0, 1, 42, math.MaxInt64)
	return pick(m,
		func() made { return m.put(api.KNum, "", number, strconv.FormatInt(number, 10)) }, func() made { return m.put(api.KTruth, "", num, truthText(num)) },
		func() made { return m.put(api.KNil, "", 0, "( )") }, func() made { return m.put(api.KVar, name, 0, name) },
		func() made { return m.put(api.KPick, name+"::V", 0, name+" :: V") })()
}

func (m *maker) init(measure int) made {
	name := m.name()
	x := m.expr(measure)
	return m.put(api.KInit, name, 0, name+" : "+x.text, x)
}

func (m *maker) arm(measure int) made {
	p := m.pattern(m.r.Intn(3))
	x := m.expr(measure)
	return m.put(api.KArm, "", 0, p.text+" => "+x.text, p, x)
}

func (m *maker) branch(measure int) made {
	cond, yes := m.expr(measure-1), m.block(measure-1)
	text := joined("if", cond.operand(), yes.text)
	switch m.r.Intn(3) {
	case 0:
		return m.put(api.KIf, "", 0, text, cond, yes)
	case 1:
		no := m.block(measure - 1)
		return m.put(api.KIf, "", 0, joined(text, "else", no.text), cond, yes, no)
	}
	no := m.branch(max(measure-1, 1))
	return m.put(api.KIf, "", 0, joined(text, "else", no.text), cond, yes, no)
}

func (m *maker) expr(measure int) made {
	if measure <= 0 {
		return m.leaf()
	}
	name := m.name()
	part := func() made { return m.expr(measure - 1) }
	switch kind := 34 + m.r.Intn(14); kind {
	case api.KCall:
		l, text := several(m.r.Intn(4), " , ", part)
		return m.put(kind, name, 0, joined(name, "(", text, ")"), l...)
	case api.KMake:
		l, text := several(m.r.Intn(4), " , ", func() made { return m.init(measure - 1) })
		return m.put(kind, name, 0, joined(name, "{", text, "}"), l...)
	case api.KPick:
		x := part()
		return m.put(kind, name+"::"+name, 0, joined(name, "::", name, "(", x.text, ")"), x)
	case api.KBin:
		a, b := part(), part()
		sign := pick(m, "||", "&&", "==", "!=", "<", ">", "<=", ">=", "+", "-", "*", "/", "%")
		return m.put(kind, sign, 0, joined(a.operand(), sign, b.operand()), a, b)
	case api.KNeg, api.KNot, api.KStar:
		x := part()
		return m.put(kind, "", 0, map[int]string{api.KNeg: "- ", api.KNot: "! ", api.KStar: "* "}[kind]+x.operand(), x)
	case api.KGet:
		x := part()
		return m.put(kind, name, 0, joined(x.operand(api.KGet), ".", name), x)
	case api.KBorrow:
		x := part()
		num, mut := m.flag("mut")
		return m.put(kind, "", num, joined("&", mut, x.operand()), x)
	case api.KNew:
		x := part()
		return m.put(kind, "", 0, joined("Box :: new (", x.text, ")"), x)
	case api.KIf:
		return m.branch(measure)
	case api.KMatch:
		subject := part()
		l, text := several(m.r.Intn(4), " , ", func() made { return m.arm(measure - 1) })
		return m.put(kind, "", 0, joined("match", subject.operand(), "{", text, "}"), append([]made{subject}, l...)...)
	}
	return m.block(measure)
}

func (m *maker) block(measure int) made {
	l, text := several(m.r.Intn(4), " ", func() made { return m.statement(measure - 1) })
	if m.r.Intn(2) == 0 {
		return m.put(api.KBlock, "", 0, joined("{", text, "}"), l...)
	}
	x := m.expr(measure - 1)
	return m.put(api.KBlock, "", 1, joined("{", text, x.text, "}"), append(l, x)...)
}

func (m *maker) statement(measure int) made {
	name := m.name()
	switch kind := 21 + m.r.Intn(7); kind {
	case api.KLet:
		num, mut := m.flag("mut")
		if m.r.Intn(2) == 0 {
			x := m.expr(measure)
			return m.put(kind, name, num, joined("let", mut, name, "=", x.text, ";"), x)
		}
		t := m.aType(m.r.Intn(3))
		x := m.expr(measure)
		return m.put(kind, name, num, joined("let", mut, name, ":", t.text, "=", x.text, ";"), t, x)
	case api.KSet:
		a, b := m.expr(measure), m.expr(measure)
		return m.put(kind, "", 0, joined(a.operand(), "=", b.operand(), ";"), a, b)
	case api.KWhile:
		cond, body := m.expr(measure), m.block(measure)
		return m.put(kind, "", 0, joined("while", cond.operand(), body.text), cond, body)
	case api.KReturn:
		if m.r.Intn(2) == 0 {
			return m.put(kind, "", 0, "return ;")
		}
		x := m.expr(measure)
		return m.put(kind, "", 0, joined("return", x.text, ";"), x)
	case api.KBreak:
		return m.put(kind, "", 0, "break ;")
	case api.KNext:
		return m.put(kind, "", 0, "continue ;")
	}
	x := m.expr(measure)
	return m.put(api.KDo, "", 0, x.text+" ;", x)
}

func (m *maker) named(kind int) made {
	name := m.name()
	num, mut := int64(0), ""
	if kind == api.KParam {
		num, mut = m.flag("mut")
	}
	t := m.aType(m.r.Intn(3))
	return m.put(kind, name, num, joined(mut, name, ":", t.text), t)
}

func (m *maker) variant() made {
	name := m.name()
	if m.r.Intn(2) == 0 {
		return m.put(api.KVariant, name, 0, name)
	}
	t := m.aType(m.r.Intn(3))
	return m.put(api.KVariant, name, 0, joined(name, "(", t.text, ")"), t)
}

func (m *maker) item(measure int) made {
	name := m.name()
	switch m.r.Intn(4) {
	case 0:
		l, text := several(m.r.Intn(4), " , ", func() made { return m.named(api.KField) })
		return m.put(api.KStruct, name, 0, joined("struct", name, "{", text, "}"), l...)
	case 1:
		l, text := several(m.r.Intn(4), " , ", m.variant)
		return m.put(api.KEnum, name, 0, joined("enum", name, "{", text, "}"), l...)
	}
	l, text := several(m.r.Intn(4), " , ", func() made { return m.named(api.KParam) })
	result := m.aType(m.r.Intn(3))
	arrow := "-> " + result.text
	if result.kind == api.KTyUnit {
		arrow = ""
	}
	body := m.block(measure)
	return m.put(api.KFn, name, int64(len(l)), joined("fn", name, "(", text, ")", arrow, body.text), append(l, result, body)...)
}

// made is a tree, and the text that it must be printed as.
func (m *maker) tree(items, measure int) (api.Tree, string) {
	m.nodes = nil
	l, text := several(items, " ", func() made { return m.item(measure) })
	m.put(api.KCrate, "", 0, text, l...)
	return api.Tree{Nodes: m.nodes}, text
}

// shuffled is the same tree with its nodes in another order, each behind its kids; and the new place of each.
func shuffled(r *rand.Rand, t api.Tree) (api.Tree, []int) {
	missing := make([]int, len(t.Nodes)) // kids that have no place yet
	parents := make([]int, len(t.Nodes))
	var ready []int
	for k, n := range t.Nodes {
		missing[k] = len(n.Kids)
		for _, kid := range n.Kids {
			parents[kid] = k
		}
		if missing[k] == 0 {
			ready = append(ready, k)
		}
	}
	places := make([]int, len(t.Nodes))
	var out api.Tree
	for len(ready) > 0 {
		i := r.Intn(len(ready))
		k := ready[i]
		ready = slices.Delete(ready, i, i+1)
		n := t.Nodes[k]
		n.Kids = nil
		for _, kid := range t.Nodes[k].Kids {
			n.Kids = append(n.Kids, places[kid])
		}
		places[k] = len(out.Nodes)
		out.Nodes = append(out.Nodes, n)
		if k == len(t.Nodes)-1 {
			break
		}
		if missing[parents[k]]--; missing[parents[k]] == 0 {
			ready = append(ready, parents[k])
		}
	}
	return out, places
}
