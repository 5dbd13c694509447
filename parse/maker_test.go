package parse

import (
	"math/rand"
	"strconv"
	"strings"

	"patina/api"
)

// made is a node with its first and its last token.
type made struct {
	api.Node
	first, last int
	unwritten   bool
}

// begun is a deep thing: its first token, and how many others it stands within.
type begun struct {
	token, within int
}

// maker makes sources at random by the grammar, with the trees that they must have.
type maker struct {
	r      *rand.Rand
	narrow bool // one part of each thing goes on, the others end at once
	texts  []string
	nodes  []made
	deeps  []begun
	depth  int
}

// where says what an expression may not begin with, and whether it stands in a cond.
type where struct {
	cond bool
	left int
}

const (
	anyLeft  = 0
	noBlocky = 1
	noBrace  = 2
)

func (w where) rest() where { return where{cond: w.cond} }

func (m *maker) put(texts ...string) { m.texts = append(m.texts, texts...) }

func (m *maker) node(first int, kind int, name string, num int64, kids ...int) int {
	m.nodes = append(m.nodes, made{Node: api.Node{Kind: kind, Name: name, Num: num, Kids: kids}, first: first, last: len(m.texts) - 1})
	return len(m.nodes) - 1
}

// chance tells yes in one of n times.
func (m *maker) chance(n int) bool { return m.r.Intn(n) == 0 }

func (m *maker) name() string {
	l := strings.Fields("a b x y z0 _q S E V new main print read fnx i640 Boxed _0 letter mutable trues selfish")
	return l[m.r.Intn(len(l))]
}

// split are so many parts of what is left of a measure.
func (m *maker) split(measure, parts int) []int {
	l := make([]int, parts)
	if parts == 0 || measure <= 1 {
		return l
	}
	if m.narrow {
		l[m.r.Intn(parts)] = measure - 1
		return l
	}
	for range measure - 1 {
		l[m.r.Intn(parts)]++
	}
	return l
}

// deep notes that a deep thing begins here; what it tells is to be called where that ends.
func (m *maker) deep() func() {
	m.deeps = append(m.deeps, begun{len(m.texts), m.depth})
	m.depth++
	return func() { m.depth-- }
}

// parts makes a list with commas between, perhaps one behind the last.
func (m *maker) parts(measure, most int, part func(measure int) int) []int {
	n := m.r.Intn(most + 1)
	if measure > 1 && n == 0 && m.narrow {
		n = 1
	}
	var kids []int
	for k, share := range m.split(measure, n) {
		kids = append(kids, part(share))
		if k < n-1 || m.chance(4) {
			m.put(",")
		}
	}
	return kids
}

func (m *maker) crate(measure int) {
	var kids []int
	for _, share := range m.split(measure+1, 1+m.r.Intn(3)) {
		kids = append(kids, m.item(share))
	}
	m.node(0, api.KCrate, "", 0, kids...)
}

func (m *maker) item(measure int) int {
	first := len(m.texts)
	name := m.name()
	switch m.r.Intn(6) {
	case 0:
		m.put("struct", name, "{")
		kids := m.parts(measure, 4, func(measure int) int { return m.named(api.KField, false, measure) })
		m.put("}")
		return m.node(first, api.KStruct, name, 0, kids...)
	case 1:
		m.put("enum", name, "{")
		kids := m.parts(measure, 4, m.variant)
		m.put("}")
		return m.node(first, api.KEnum, name, 0, kids...)
	}
	l := m.split(measure, 3)
	m.put("fn", name, "(")
	kids := m.parts(l[0], 3, func(measure int) int { return m.named(api.KParam, m.chance(2), measure) })
	params := int64(len(kids))
	m.put(")")
	if m.chance(2) {
		m.put("->")
		kids = append(kids, m.aType(l[1]))
	} else {
		kids = append(kids, m.node(len(m.texts)-1, api.KTyUnit, "", 0))
		m.nodes[len(m.nodes)-1].unwritten = true
	}
	kids = append(kids, m.block(l[2]))
	return m.node(first, api.KFn, name, params, kids...)
}

func (m *maker) named(kind int, mut bool, measure int) int {
	first := len(m.texts)
	num := int64(0)
	if mut {
		m.put("mut")
		num = 1
	}
	name := m.name()
	m.put(name, ":")
	return m.node(first, kind, name, num, m.aType(measure))
}

func (m *maker) variant(measure int) int {
	first := len(m.texts)
	name := m.name()
	m.put(name)
	if measure == 0 && m.chance(2) {
		return m.node(first, api.KVariant, name, 0)
	}
	m.put("(")
	kid := m.aType(measure)
	m.put(")")
	return m.node(first, api.KVariant, name, 0, kid)
}

func (m *maker) aType(measure int) int {
	defer m.deep()()
	first := len(m.texts)
	if measure > 0 {
		switch m.r.Intn(3) {
		case 0:
			m.put("&")
			return m.node(first, api.KTyRef, "", 0, m.aType(measure-1))
		case 1:
			m.put("&", "mut")
			return m.node(first, api.KTyMut, "", 0, m.aType(measure-1))
		}
		m.put("Box", "<")
		kid := m.aType(measure - 1)
		m.put(">")
		return m.node(first, api.KTyBox, "", 0, kid)
	}
	switch m.r.Intn(4) {
	case 0:
		m.put("i64")
		return m.node(first, api.KTyInt, "", 0)
	case 1:
		m.put("bool")
		return m.node(first, api.KTyBool, "", 0)
	case 2:
		m.put("(", ")")
		return m.node(first, api.KTyUnit, "", 0)
	}
	name := m.name()
	m.put(name)
	return m.node(first, api.KTyName, name, 0)
}

func (m *maker) pattern(measure int) int {
	defer m.deep()()
	first := len(m.texts)
	kind := m.r.Intn(6)
	if measure > 0 {
		kind = 5
	}
	switch kind {
	case 0:
		m.put("_")
		return m.node(first, api.KPAny, "", 0)
	case 1:
		name := m.name()
		m.put(name)
		return m.node(first, api.KPVar, name, 0)
	case 2, 3:
		n := m.number()
		if kind == 3 {
			m.put("-")
			n = -n
		}
		m.put(strings.TrimPrefix(strconv.FormatInt(n, 10), "-"))
		return m.node(first, api.KPNum, "", n)
	case 4:
		num := int64(m.r.Intn(2))
		m.put([]string{"false", "true"}[num])
		return m.node(first, api.KPTruth, "", num)
	}
	return m.pick(api.KPPick, measure, m.pattern)
}

func (m *maker) number() int64 {
	return []int64{0, 1, 7, 42, 1 << 40, 1<<63 - 1}[m.r.Intn(6)]
}

func (m *maker) pick(kind, measure int, part func(measure int) int) int {
	first := len(m.texts)
	a, b := m.name(), m.name()
	m.put(a, "::", b)
	if measure == 0 && m.chance(2) {
		return m.node(first, kind, a+"::"+b, 0)
	}
	m.put("(")
	kid := part(max(measure-1, 0))
	m.put(")")
	return m.node(first, kind, a+"::"+b, 0, kid)
}

func (m *maker) block(measure int) int {
	defer m.deep()()
	first := len(m.texts)
	m.put("{")
	tells := m.r.Intn(2)
	n := m.r.Intn(3)
	if measure > 1 && n+tells == 0 {
		n = 1
	}
	var kids []int
	for k, share := range m.split(measure, n+tells) {
		if k < n {
			kids = append(kids, m.statement(share, k == n-1 && tells == 0))
		} else if m.chance(2) {
			kids = append(kids, m.blocky(share, noBlocky))
		} else {
			kids = append(kids, m.expr(share, where{left: noBlocky}))
		}
	}
	m.put("}")
	return m.node(first, api.KBlock, "", int64(tells), kids...)
}

// statement makes one; the last one of a block that tells nothing is no blocky without a ; .
func (m *maker) statement(measure int, last bool) int {
	first := len(m.texts)
	var n int
	switch m.r.Intn(8) {
	case 0:
		n = m.let(measure)
	case 1:
		l := m.split(measure, 2)
		m.put("while")
		cond := m.expr(l[0], where{cond: true})
		return m.node(first, api.KWhile, "", 0, cond, m.block(l[1]))
	case 2:
		m.put("return")
		var kids []int
		if measure > 0 || m.chance(2) {
			kids = append(kids, m.expr(measure, where{}))
		}
		n = m.node(first, api.KReturn, "", 0, kids...)
	case 3:
		kid := m.blocky(measure, noBlocky)
		n = m.node(first, api.KDo, "", 0, kid)
		if !last && m.chance(2) {
			return n
		}
	case 4:
		l := m.split(measure, 2)
		place := m.expr(l[0], where{left: noBlocky})
		m.put("=")
		value := m.expr(l[1], where{})
		n = m.node(first, api.KSet, "", 0, place, value)
	case 5:
		if measure == 0 {
			n = m.leave(first)
			break
		}
		fallthrough
	default:
		kid := m.expr(measure, where{left: noBlocky})
		n = m.node(first, api.KDo, "", 0, kid)
	}
	m.put(";")
	return n
}

func (m *maker) leave(first int) int {
	if m.chance(2) {
		m.put("break")
		return m.node(first, api.KBreak, "", 0)
	}
	m.put("continue")
	return m.node(first, api.KNext, "", 0)
}

func (m *maker) let(measure int) int {
	first := len(m.texts)
	l := m.split(measure, 2)
	num := int64(m.r.Intn(2))
	m.put("let")
	if num == 1 {
		m.put("mut")
	}
	name := m.name()
	m.put(name)
	var kids []int
	if l[0] > 0 || m.chance(2) {
		m.put(":")
		kids = append(kids, m.aType(l[0]))
	}
	m.put("=")
	kids = append(kids, m.expr(l[1], where{}))
	return m.node(first, api.KLet, name, num, kids...)
}

// blocky makes an if, a match or a block; where { may not begin it, no block.
func (m *maker) blocky(measure, left int) int {
	switch m.r.Intn(3) {
	case 0:
		if left != noBrace {
			return m.block(measure)
		}
		fallthrough
	case 1:
		return m.branch(measure)
	}
	first := len(m.texts)
	n := m.r.Intn(4)
	l := m.split(measure, n+1)
	m.put("match")
	kids := []int{m.expr(l[0], where{cond: true})}
	m.put("{")
	for k := range n {
		kids = append(kids, m.arm(l[k+1], k == n-1))
	}
	m.put("}")
	return m.node(first, api.KMatch, "", 0, kids...)
}

func (m *maker) branch(measure int) int {
	first := len(m.texts)
	l := m.split(measure, 3)
	m.put("if")
	kids := []int{m.expr(l[0], where{cond: true})}
	kids = append(kids, m.block(l[1]))
	if l[2] > 0 || m.chance(2) {
		m.put("else")
		if m.chance(2) {
			kids = append(kids, m.block(l[2]))
		} else {
			done := m.deep()
			kids = append(kids, m.branch(l[2]))
			done()
		}
	}
	return m.node(first, api.KIf, "", 0, kids...)
}

func (m *maker) arm(measure int, last bool) int {
	first := len(m.texts)
	l := m.split(measure, 2)
	kids := []int{m.pattern(l[0])}
	m.put("=>")
	bare := last
	if m.chance(3) {
		kids = append(kids, m.block(l[1]))
		bare = true
	} else {
		kids = append(kids, m.expr(l[1], where{left: noBrace}))
	}
	if !bare || m.chance(2) {
		m.put(",")
	}
	return m.node(first, api.KArm, "", 0, kids...)
}

func (m *maker) expr(measure int, w where) int {
	defer m.deep()()
	return m.row(1, measure, w)
}

var signRows = [][]string{1: {"||"}, 2: {"&&"}, 3: {"<", "<=", ">", ">=", "==", "!="}, 4: {"+", "-"}, 5: {"*", "/", "%"}}

func (m *maker) row(level, measure int, w where) int {
	if level == len(signRows) {
		return m.prefix(measure, w)
	}
	first := len(m.texts)
	signs := 0
	if measure > 0 && m.chance(6) {
		signs = 1 + m.r.Intn(2)
	}
	if level == 3 {
		signs = min(signs, 1)
	}
	l := m.split(measure+1, signs+1)
	left := m.row(level+1, l[0], w)
	for k := range signs {
		sign := signRows[level][m.r.Intn(len(signRows[level]))]
		m.put(sign)
		right := m.row(level+1, l[k+1], w.rest())
		left = m.node(first, api.KBin, sign, 0, left, right)
	}
	return left
}

func (m *maker) prefix(measure int, w where) int {
	first := len(m.texts)
	kind := m.r.Intn(16)
	if kind > 4 {
		return m.postfix(measure, w)
	}
	m.put([]string{"-", "!", "*", "&", "&"}[kind])
	num := int64(0)
	if kind == 4 {
		m.put("mut")
		num = 1
	}
	done := m.deep()
	kid := m.prefix(max(measure-1, 0), w.rest())
	done()
	return m.node(first, []int{api.KNeg, api.KNot, api.KStar, api.KBorrow, api.KBorrow}[kind], "", num, kid)
}

func (m *maker) postfix(measure int, w where) int {
	first := len(m.texts)
	n := m.primary(measure, w)
	for m.chance(8) {
		name := m.name()
		m.put(".", name)
		n = m.node(first, api.KGet, name, 0, n)
	}
	return n
}

func (m *maker) primary(measure int, w where) int {
	first := len(m.texts)
	if measure == 0 {
		return m.leaf()
	}
	kind := m.r.Intn(8)
	if kind >= 5 && w.left == noBlocky || kind == 4 && w.cond {
		kind = m.r.Intn(4)
	}
	switch kind {
	case 0:
		m.put("(")
		n := m.expr(measure-1, where{})
		m.put(")")
		return n
	case 1:
		name := m.name()
		m.put(name, "(")
		kids := m.parts(measure, 3, func(measure int) int { return m.expr(measure, where{}) })
		m.put(")")
		return m.node(first, api.KCall, name, 0, kids...)
	case 2:
		return m.pick(api.KPick, measure, func(measure int) int { return m.expr(measure, where{}) })
	case 3:
		m.put("Box", "::", "new", "(")
		kid := m.expr(measure-1, where{})
		m.put(")")
		return m.node(first, api.KNew, "", 0, kid)
	case 4:
		name := m.name()
		m.put(name, "{")
		kids := m.parts(measure, 3, m.init)
		m.put("}")
		return m.node(first, api.KMake, name, 0, kids...)
	}
	return m.blocky(measure-1, w.left)
}

func (m *maker) init(measure int) int {
	first := len(m.texts)
	name := m.name()
	m.put(name, ":")
	kid := m.expr(measure, where{})
	return m.node(first, api.KInit, name, 0, kid)
}

func (m *maker) leaf() int {
	first := len(m.texts)
	switch m.r.Intn(5) {
	case 0:
		num := int64(m.r.Intn(2))
		m.put([]string{"false", "true"}[num])
		return m.node(first, api.KTruth, "", num)
	case 1:
		m.put("(", ")")
		return m.node(first, api.KNil, "", 0)
	case 2:
		name := m.name()
		m.put(name)
		return m.node(first, api.KVar, name, 0)
	}
	n := m.number()
	m.put(strconv.FormatInt(n, 10))
	return m.node(first, api.KNum, "", n)
}

// layout is a source of texts, and where each one stands in it, with the source's end. What is between is taken at random, if there is a source of chance.
func layout(texts []string, r *rand.Rand) (string, []api.Token) {
	var b strings.Builder
	var l []api.Token
	gaps := []string{" ", "  ", "\n", "\t", "\r\n", " // a remark: fn { ( 1a |\n", "//\n", " // \u00e9\n\n"}
	for k, text := range texts {
		switch {
		case r == nil && k > 0:
			b.WriteByte(' ')
		case r != nil && k > 0 && !strings.ContainsAny(text+texts[k-1], "(){},;") || r != nil && r.Intn(3) == 0:
			gap := gaps[r.Intn(len(gaps))]
			if k > 0 && texts[k-1] == "/" {
				gap = " " + gap // a remark right behind it would begin with it
			}
			b.WriteString(gap)
		}
		l = append(l, api.Token{Text: text, From: b.Len(), To: b.Len() + len(text)})
		b.WriteString(text)
	}
	if r != nil && r.Intn(2) == 0 {
		b.WriteString([]string{" ", "\n", "// at the end", "//\n"}[r.Intn(4)])
	}
	return b.String(), append(l, api.Token{Kind: api.TkEnd, From: b.Len(), To: b.Len()})
}

// tree is the tree that the source of those tokens must have.
func (m *maker) tree(l []api.Token) []api.Node {
	var nodes []api.Node
	for _, x := range m.nodes {
		n := x.Node
		if x.Kind == api.KCrate {
			n.To = l[len(l)-1].To
		} else {
			n.From, n.To = l[x.first].From, l[x.last].To
		}
		if x.unwritten {
			n.From = n.To
		}
		nodes = append(nodes, n)
	}
	return nodes
}

// tooDeep is the first token that begins a deep thing that is too deep; -1: there is none.
func (m *maker) tooDeep() int {
	for _, b := range m.deeps {
		if b.within >= api.MaxDeep {
			return b.token
		}
	}
	return -1
}
