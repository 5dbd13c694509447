package check

import (
	"slices"
	"strings"

	"patina/api"
	"patina/items"
)

// bad is what does not fit, and where; nil: nothing.
type bad struct {
	code api.Errno
	node int
}

// link is a variable that is seen, and those that were seen ahead of it.
type link struct {
	name string
	v    int
	next *link
}

// model types a tree by the chapter's words: what is seen is handed on as a chain, and what does not fit comes back as an answer.
type model struct {
	nodes  []api.Node
	it     api.Items
	types  []string
	vars   []int
	locals []api.Local
	ret    string
	loop   bool
}

// modelOf is what Of must tell.
func modelOf(t api.Tree) (api.Typed, api.Diag) {
	it, d := items.Of(t)
	if d.Code != api.OK {
		return api.Typed{}, d
	}
	m := &model{nodes: t.Nodes, it: it, types: make([]string, len(t.Nodes)), vars: make([]int, len(t.Nodes))}
	for k := range m.vars {
		m.vars[k] = -1
	}
	var locals [][]api.Local
	for k, n := range t.Nodes {
		if n.Kind != api.KFn {
			continue
		}
		if b := m.function(k); b != nil {
			return api.Typed{}, api.Diag{Code: b.code, From: t.Nodes[b.node].From, To: t.Nodes[b.node].To}
		}
		locals = append(locals, m.locals)
	}
	return api.Typed{Tree: t, Items: it, Types: m.types, Vars: m.vars, Locals: locals}, api.Diag{}
}

func (m *model) function(k int) *bad {
	n := m.nodes[k]
	m.locals, m.loop = nil, false
	var seen *link
	for _, p := range n.Kids[:n.Num] {
		x := m.nodes[p]
		seen, _ = m.begin(seen, p, api.Local{Name: x.Name, Type: m.typeText(x.Kids[0]), Mut: x.Num == 1})
	}
	m.ret = m.typeText(n.Kids[n.Num])
	body := n.Kids[n.Num+1]
	if b := m.expr(body, seen); b != nil {
		return b
	}
	return m.fits(body, m.ret)
}

// typeText is the text of a type that a node is.
func (m *model) typeText(k int) string {
	switch n := m.nodes[k]; n.Kind {
	case api.KTyRef:
		return "&" + m.typeText(n.Kids[0])
	case api.KTyMut:
		return "&mut " + m.typeText(n.Kids[0])
	case api.KTyBox:
		return "Box<" + m.typeText(n.Kids[0]) + ">"
	case api.KTyName:
		return n.Name
	default:
		return map[int]string{api.KTyInt: "i64", api.KTyBool: "bool", api.KTyUnit: "()"}[n.Kind]
	}
}

func (m *model) begin(seen *link, n int, v api.Local) (*link, *bad) {
	if len(m.locals) >= 256 {
		return nil, &bad{api.ErrLong, n}
	}
	m.vars[n] = len(m.locals)
	m.locals = append(m.locals, v)
	return &link{v.Name, len(m.locals) - 1, seen}, nil
}

func (m *model) fits(n int, want string) *bad {
	if m.types[n] != want && m.types[n] != "!" {
		return &bad{api.ErrType, n}
	}
	return nil
}

func (m *model) operand(n int, seen *link) *bad {
	b := m.expr(n, seen)
	if b == nil && m.types[n] == "!" {
		b = &bad{api.ErrType, n}
	}
	return b
}

func (m *model) expects(n int, seen *link, want ...string) *bad {
	b := m.operand(n, seen)
	if b == nil && !slices.Contains(want, m.types[n]) {
		b = &bad{api.ErrType, n}
	}
	return b
}

// all walks operands, each with the type that is expected of it.
func (m *model) all(seen *link, kids []int, want ...string) *bad {
	for k, kid := range kids {
		if b := m.expects(kid, seen, want[k]); b != nil {
			return b
		}
	}
	return nil
}

func (m *model) expr(n int, seen *link) *bad {
	t, b := m.typeOf(n, m.nodes[n], seen)
	if b == nil {
		m.types[n] = t
	}
	return b
}

func (m *model) typeOf(n int, x api.Node, seen *link) (string, *bad) {
	switch x.Kind {
	case api.KNum:
		return "i64", nil
	case api.KTruth:
		return "bool", nil
	case api.KNil:
		return "()", nil
	case api.KVar:
		for l := seen; l != nil; l = l.next {
			if l.name == x.Name {
				m.vars[n] = l.v
				return m.locals[l.v].Type, nil
			}
		}
		return "", &bad{api.ErrVar, n}
	case api.KCall:
		return m.call(n, x, seen)
	case api.KMake:
		return m.make(n, x, seen)
	case api.KPick:
		enum, payload, ok := m.variant(x)
		if !ok {
			return "", &bad{api.ErrField, n}
		}
		return enum, m.all(seen, x.Kids, payload)
	case api.KBin:
		return m.bin(x, seen)
	case api.KNeg:
		return "i64", m.all(seen, x.Kids, "i64")
	case api.KNot:
		return "bool", m.all(seen, x.Kids, "bool")
	case api.KGet, api.KStar:
		return m.below(n, x, seen)
	case api.KBorrow:
		return m.borrow(n, x, seen)
	case api.KNew:
		b := m.operand(x.Kids[0], seen)
		if b == nil && strings.Contains(m.types[x.Kids[0]], "&") {
			b = &bad{api.ErrInner, n}
		}
		return "Box<" + m.types[x.Kids[0]] + ">", b
	case api.KIf:
		return m.cond(x, seen)
	case api.KMatch:
		return m.match(x, seen)
	}
	return m.block(x, seen)
}

func (m *model) call(n int, x api.Node, seen *link) (string, *bad) {
	want, ret := []string{}, ""
	switch x.Name {
	case "print":
		want, ret = []string{"i64"}, "()"
	case "read":
		ret = "i64"
	case "panic":
		ret = "!"
	}
	for _, f := range m.it.Fns {
		if f.Name == x.Name {
			ret = f.Ret
			for _, p := range f.Params {
				want = append(want, p.Type)
			}
		}
	}
	if ret == "" || len(want) != len(x.Kids) {
		return "", &bad{api.ErrCall, n}
	}
	return ret, m.all(seen, x.Kids, want...)
}

func (m *model) fieldsOf(name string) ([]api.Field, bool) {
	for _, s := range m.it.Structs {
		if s.Name == name {
			return s.Fields, true
		}
	}
	return nil, false
}

func (m *model) make(n int, x api.Node, seen *link) (string, *bad) {
	fields, there := m.fieldsOf(x.Name)
	if !there {
		return "", &bad{api.ErrField, n}
	}
	left := slices.Clone(fields)
	for _, kid := range x.Kids {
		k := slices.IndexFunc(left, func(f api.Field) bool { return f.Name == m.nodes[kid].Name })
		if k < 0 {
			return "", &bad{api.ErrField, kid}
		}
		if b := m.expects(m.nodes[kid].Kids[0], seen, left[k].Type); b != nil {
			return "", b
		}
		left = slices.Delete(left, k, k+1)
	}
	if len(left) > 0 {
		return "", &bad{api.ErrField, n}
	}
	return x.Name, nil
}

func (m *model) variant(x api.Node) (string, string, bool) {
	for _, e := range m.it.Enums {
		for _, v := range e.Variants {
			if e.Name+"::"+v.Name == x.Name {
				return e.Name, v.Type, len(x.Kids) == min(len(v.Type), 1)
			}
		}
	}
	return "", "", false
}

func (m *model) bin(x api.Node, seen *link) (string, *bad) {
	sides, told := []string{"i64"}, "bool"
	if strings.Contains("+-*/%", x.Name) {
		told = "i64"
	}
	if x.Name == "&&" || x.Name == "||" {
		sides = []string{"bool"}
	}
	if x.Name == "==" || x.Name == "!=" {
		sides = []string{"i64", "bool"}
	}
	if b := m.expects(x.Kids[0], seen, sides...); b != nil {
		return "", b
	}
	return told, m.expects(x.Kids[1], seen, m.types[x.Kids[0]])
}

func place(x api.Node) bool { return slices.Contains([]int{api.KVar, api.KGet, api.KStar}, x.Kind) }

// steps are the types that a type is followed by, from itself to the last.
func steps(t string) []string {
	l := []string{t}
	for {
		switch {
		case strings.HasPrefix(t, "&mut "):
			t = t[5:]
		case t[0] == '&':
			t = t[1:]
		case strings.HasPrefix(t, "Box<"):
			t = t[4 : len(t)-1]
		default:
			return l
		}
		l = append(l, t)
	}
}

// below is a KGet or a KStar.
func (m *model) below(n int, x api.Node, seen *link) (string, *bad) {
	base := x.Kids[0]
	if b := m.operand(base, seen); b != nil {
		return "", b
	}
	if !place(m.nodes[base]) && m.types[base][0] != '&' {
		return "", &bad{api.ErrPlace, base}
	}
	l := steps(m.types[base])
	if x.Kind == api.KStar {
		if len(l) < 2 {
			return "", &bad{api.ErrDeref, n}
		}
		return l[1], nil
	}
	fields, _ := m.fieldsOf(l[len(l)-1])
	for _, f := range fields {
		if f.Name == x.Name {
			return f.Type, nil
		}
	}
	return "", &bad{api.ErrField, n}
}

// changed tells whether a place may be changed, by the chapter's words: step by step from its base.
func (m *model) changed(n int, locals []api.Local) bool {
	x := m.nodes[n]
	if x.Kind == api.KVar {
		return locals[m.vars[n]].Mut
	}
	l := steps(m.types[x.Kids[0]])
	if x.Kind == api.KStar {
		l = l[:2]
	}
	may := place(m.nodes[x.Kids[0]]) && m.changed(x.Kids[0], locals)
	for _, t := range l[:len(l)-1] {
		if t[0] == '&' {
			may = strings.HasPrefix(t, "&mut ")
		}
	}
	return may
}

func (m *model) borrow(n int, x api.Node, seen *link) (string, *bad) {
	kid := x.Kids[0]
	switch b := m.operand(kid, seen); {
	case b != nil:
		return "", b
	case !place(m.nodes[kid]):
		return "", &bad{api.ErrPlace, kid}
	case strings.Contains(m.types[kid], "&"):
		return "", &bad{api.ErrInner, n}
	case x.Num == 1 && !m.changed(kid, m.locals):
		return "", &bad{api.ErrMut, kid}
	}
	return []string{"&", "&mut "}[x.Num] + m.types[kid], nil
}

func (m *model) cond(x api.Node, seen *link) (string, *bad) {
	if b := m.expects(x.Kids[0], seen, "bool"); b != nil {
		return "", b
	}
	for _, k := range x.Kids[1:] {
		if b := m.expr(k, seen); b != nil {
			return "", b
		}
	}
	if len(x.Kids) == 2 {
		return "()", m.fits(x.Kids[1], "()")
	}
	return m.joined(x.Kids[1:])
}

// joined is the first type that is not !, which the others are to fit.
func (m *model) joined(l []int) (string, *bad) {
	for k, n := range l {
		if m.types[n] == "!" {
			continue
		}
		for _, later := range l[k+1:] {
			if b := m.fits(later, m.types[n]); b != nil {
				return "", b
			}
		}
		return m.types[n], nil
	}
	return "!", nil
}

func (m *model) match(x api.Node, seen *link) (string, *bad) {
	if b := m.operand(x.Kids[0], seen); b != nil {
		return "", b
	}
	var values []int
	for _, arm := range x.Kids[1:] {
		parts := m.nodes[arm].Kids
		inside, b := m.pattern(parts[0], m.types[x.Kids[0]], seen)
		if b == nil {
			b = m.expr(parts[1], inside)
		}
		if b != nil {
			return "", b
		}
		values = append(values, parts[1])
	}
	return m.joined(values)
}

func (m *model) pattern(n int, t string, seen *link) (*link, *bad) {
	x := m.nodes[n]
	m.types[n] = t
	holds := t
	if t[0] == '&' {
		holds = steps(t)[1]
	}
	ok := true
	switch x.Kind {
	case api.KPVar:
		return m.begin(seen, n, api.Local{Name: x.Name, Type: t})
	case api.KPNum:
		ok = holds == "i64"
	case api.KPTruth:
		ok = holds == "bool"
	case api.KPPick:
		enum, payload, there := m.variant(x)
		ok = there && enum == holds
		if ok && payload != "" {
			return m.pattern(x.Kids[0], strings.TrimSuffix(t, holds)+payload, seen)
		}
	}
	if !ok {
		return nil, &bad{api.ErrPattern, n}
	}
	return seen, nil
}

func (m *model) block(x api.Node, seen *link) (string, *bad) {
	told := "()"
	for _, kid := range x.Kids {
		var b *bad
		if seen, told, b = m.part(kid, m.nodes[kid], seen); b != nil {
			return "", b
		}
	}
	return told, nil
}

// part is a kid of a block: what is seen behind it, and what the block tells, if it is the last one.
func (m *model) part(n int, x api.Node, seen *link) (*link, string, *bad) {
	switch x.Kind {
	case api.KLet:
		seen, b := m.let(n, x, seen)
		return seen, "()", b
	case api.KDo:
		b := m.expr(x.Kids[0], seen)
		if b == nil && m.types[x.Kids[0]] == "!" {
			return seen, "!", nil
		}
		return seen, "()", b
	case api.KSet:
		return seen, "()", m.set(x, seen)
	case api.KWhile:
		b := m.expects(x.Kids[0], seen, "bool")
		outer := m.loop
		m.loop = true
		if b == nil {
			b = m.expr(x.Kids[1], seen)
		}
		m.loop = outer
		if b == nil {
			b = m.fits(x.Kids[1], "()")
		}
		return seen, "()", b
	case api.KReturn:
		if len(x.Kids) == 1 {
			b := m.expr(x.Kids[0], seen)
			if b == nil {
				b = m.fits(x.Kids[0], m.ret)
			}
			return seen, "!", b
		}
		if m.ret != "()" {
			return seen, "", &bad{api.ErrType, n}
		}
		return seen, "!", nil
	case api.KBreak, api.KNext:
		if !m.loop {
			return seen, "", &bad{api.ErrLoop, n}
		}
		return seen, "!", nil
	}
	b := m.expr(n, seen)
	return seen, m.types[n], b
}

func (m *model) let(n int, x api.Node, seen *link) (*link, *bad) {
	value := x.Kids[len(x.Kids)-1]
	b := m.letType(x.Kids[:len(x.Kids)-1])
	if b == nil {
		b = m.operand(value, seen)
	}
	if b == nil && len(x.Kids) == 2 && m.types[value] != m.typeText(x.Kids[0]) {
		b = &bad{api.ErrType, value}
	}
	if b != nil {
		return nil, b
	}
	return m.begin(seen, n, api.Local{Name: x.Name, Type: m.types[value], Mut: x.Num == 1})
}

// letType looks at a type, if there is one: unknown names first, then references within.
func (m *model) letType(l []int) *bad {
	var inner *bad
	for depth := 0; len(l) > 0; depth++ {
		x := m.nodes[l[0]]
		if (x.Kind == api.KTyRef || x.Kind == api.KTyMut) && depth > 0 && inner == nil {
			inner = &bad{api.ErrInner, l[0]}
		}
		if x.Kind == api.KTyName {
			_, known := m.fieldsOf(x.Name)
			for _, e := range m.it.Enums {
				known = known || e.Name == x.Name
			}
			if !known {
				return &bad{api.ErrUnknown, l[0]}
			}
		}
		l = x.Kids
	}
	return inner
}

func (m *model) set(x api.Node, seen *link) *bad {
	to := x.Kids[0]
	if b := m.operand(to, seen); b != nil {
		return b
	}
	if !place(m.nodes[to]) {
		return &bad{api.ErrPlace, to}
	}
	if b := m.expects(x.Kids[1], seen, m.types[to]); b != nil {
		return b
	}
	if !m.changed(to, m.locals) {
		return &bad{api.ErrMut, to}
	}
	return nil
}

// modelFunction is the function that a node stands in, found from above.
func modelFunction(x api.Typed, n int) int {
	for k, f := range x.Items.Fns {
		inside := map[int]bool{f.Node: true}
		for at := f.Node; at >= 0; at-- {
			if inside[at] {
				for _, kid := range x.Tree.Nodes[at].Kids {
					inside[kid] = true
				}
			}
		}
		if inside[n] {
			return k
		}
	}
	return -1
}

// modelMutable tells whether a node of a right typed tree is a place that may be changed.
func modelMutable(x api.Typed, n int) bool {
	m := &model{nodes: x.Tree.Nodes, types: x.Types, vars: x.Vars}
	return place(x.Tree.Nodes[n]) && m.changed(n, x.Locals[modelFunction(x, n)])
}

// identical tells whether two typed trees are the same, places too.
func identical(a, b api.Typed) bool {
	return Same(a, b) && slices.EqualFunc(a.Tree.Nodes, b.Tree.Nodes, func(x, y api.Node) bool { return x.From == y.From && x.To == y.To })
}
