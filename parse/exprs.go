package parse

import "patina/api"

// The rows of signs, from the one that binds least on.
const (
	firstRow   = 1 // ||
	compareRow = 3 // the one whose sign stands once at most
	lastRow    = 5 // * / %
)

// row is the row of a sign that stands between two operands: one more than those that bind less. 0: it is none.
func row(sign string) (n int) {
	switch sign {
	case "*", "/", "%":
		n++
		fallthrough
	case "+", "-":
		n++
		fallthrough
	case "<", "<=", ">", ">=", "==", "!=":
		n++
		fallthrough
	case "&&":
		n++
		fallthrough
	case "||":
		n++
	}
	return n
}

// expr reads an expression that is no cond. Where it stands within a cond, brackets of that are about it.
func (p *parser) expr() (int, error) { return p.value(false) }

func (p *parser) condition() (int, error) { return p.value(true) }

func (p *parser) value(cond bool) (int, error) {
	return p.deep("expr", beginsExpr(p.next()), func() (int, error) {
		outer := p.cond
		p.cond = cond
		n, err := p.operation(firstRow)
		p.cond = outer
		return n, err
	})
}

func beginsExpr(t api.Token) bool {
	switch t.Text {
	case "true", "false", "(", "Box", "if", "match", "{", "-", "!", "*", "&":
		return true
	}
	return t.Kind == api.TkName || t.Kind == api.TkNum
}

// operation reads operands with signs of a row between, and of those that bind tighter.
func (p *parser) operation(level int) (int, error) {
	if level > lastRow {
		return p.prefix()
	}
	from := p.next().From
	left, err := p.operation(level + 1)
	if err != nil {
		return 0, err
	}
	for row(p.next().Text) == level {
		sign := p.advance().Text
		right, err := p.operation(level + 1)
		if err != nil {
			return 0, err
		}
		left = p.put(api.Node{Kind: api.KBin, Name: sign, Kids: []int{left, right}}, from)
		if level == compareRow {
			break
		}
	}
	return left, nil
}

func (p *parser) prefix() (int, error) {
	n := api.Node{}
	switch p.next().Text {
	case "-":
		n.Kind = api.KNeg
	case "!":
		n.Kind = api.KNot
	case "*":
		n.Kind = api.KStar
	case "&":
		n.Kind = api.KBorrow
	default:
		return p.postfix()
	}
	from := p.advance().From
	if n.Kind == api.KBorrow {
		n.Num = p.mut()
	}
	kid, err := p.deep("operand", beginsExpr(p.next()), p.prefix)
	if err != nil {
		return 0, err
	}
	n.Kids = []int{kid}
	return p.put(n, from), nil
}

func (p *parser) postfix() (int, error) {
	from := p.next().From
	n, err := p.primary()
	if err != nil {
		return 0, err
	}
	for p.take(".") {
		name, err := p.name()
		if err != nil {
			return 0, err
		}
		n = p.put(api.Node{Kind: api.KGet, Name: name, Kids: []int{n}}, from)
	}
	return n, nil
}

func (p *parser) primary() (int, error) {
	t := p.next()
	switch t.Kind {
	case api.TkName:
		return p.nameFirst(p.advance())
	case api.TkNum:
		return p.put(api.Node{Kind: api.KNum, Num: t.Num}, p.advance().From), nil
	}
	switch t.Text {
	case "true", "false":
		return p.put(api.Node{Kind: api.KTruth, Num: truth(t)}, p.advance().From), nil
	case "(":
		return p.round(p.advance().From)
	case "Box":
		return p.box(p.advance().From)
	case "if", "match", "{":
		return p.blocky()
	}
	return 0, p.unexpected()
}

// nameFirst reads what a name begins.
func (p *parser) nameFirst(t api.Token) (int, error) {
	n := api.Node{Kind: api.KVar, Name: t.Text}
	var err error
	switch {
	case p.take("::"):
		return p.pick(api.KPick, t, p.expr)
	case p.take("("):
		n.Kind = api.KCall
		n.Kids, err = p.list(")", p.expr)
	case !p.cond && p.take("{"):
		n.Kind = api.KMake
		n.Kids, err = p.list("}", p.start)
	}
	if err != nil {
		return 0, err
	}
	return p.put(n, t.From), nil
}

// round reads what a round bracket begins: its node is that of what is within, which knows nothing of the brackets.
func (p *parser) round(from int) (int, error) {
	if p.take(")") {
		return p.put(api.Node{Kind: api.KNil}, from), nil
	}
	n, err := p.expr()
	if err != nil {
		return 0, err
	}
	return n, p.expect(")")
}

func (p *parser) box(from int) (int, error) {
	if err := p.expect("::", "new", "("); err != nil {
		return 0, err
	}
	kid, err := p.expr()
	if err != nil {
		return 0, err
	}
	if err := p.expect(")"); err != nil {
		return 0, err
	}
	return p.put(api.Node{Kind: api.KNew, Kids: []int{kid}}, from), nil
}
