package parse

import "patina/api"

func (p *parser) block() (int, error) {
	return p.deep("block", p.is("{"), p.blockWithin)
}

func (p *parser) blockWithin() (int, error) {
	from := p.advance().From
	b := api.Node{Kind: api.KBlock}
	for !p.take("}") {
		n, tells, err := p.statement()
		if err != nil {
			return 0, err
		}
		b.Kids = append(b.Kids, n)
		if tells {
			b.Num = 1
		}
	}
	return p.put(b, from), nil
}

// statement reads a statement; or what the block tells, if its } comes behind that.
func (p *parser) statement() (n int, tells bool, err error) {
	switch p.next().Text {
	case "let":
		n, err = p.let()
	case "while":
		n, err = p.while()
	case "return":
		n, err = p.giveBack()
	case "break":
		n, err = p.closed(api.Node{Kind: api.KBreak}, p.advance().From)
	case "continue":
		n, err = p.closed(api.Node{Kind: api.KNext}, p.advance().From)
	case "if", "match", "{":
		return p.blockyFirst()
	default:
		return p.exprFirst()
	}
	return n, false, err
}

// closed lays a statement, and takes the ; behind it, which is no part of it.
func (p *parser) closed(n api.Node, from int) (int, error) {
	k := p.put(n, from)
	return k, p.expect(";")
}

func (p *parser) let() (int, error) {
	from := p.advance().From
	l := api.Node{Kind: api.KLet, Num: p.mut()}
	name, err := p.name()
	if err != nil {
		return 0, err
	}
	l.Name = name
	if p.take(":") {
		n, err := p.aType()
		if err != nil {
			return 0, err
		}
		l.Kids = append(l.Kids, n)
	}
	if err := p.expect("="); err != nil {
		return 0, err
	}
	n, err := p.expr()
	if err != nil {
		return 0, err
	}
	l.Kids = append(l.Kids, n)
	return p.closed(l, from)
}

func (p *parser) while() (int, error) {
	from := p.advance().From
	kids, err := p.condAndBlock()
	if err != nil {
		return 0, err
	}
	return p.put(api.Node{Kind: api.KWhile, Kids: kids}, from), nil
}

func (p *parser) condAndBlock() ([]int, error) {
	cond, err := p.condition()
	if err != nil {
		return nil, err
	}
	block, err := p.block()
	if err != nil {
		return nil, err
	}
	return []int{cond, block}, nil
}

// giveBack reads a return.
func (p *parser) giveBack() (int, error) {
	r := api.Node{Kind: api.KReturn}
	from := p.advance().From
	if !p.is(";") {
		n, err := p.expr()
		if err != nil {
			return 0, err
		}
		r.Kids = []int{n}
	}
	return p.closed(r, from)
}

// blockyFirst reads what begins with if, match or { : nothing goes on with it.
func (p *parser) blockyFirst() (int, bool, error) {
	from := p.next().From
	n, err := p.blocky()
	if err != nil || p.is("}") {
		return n, true, err
	}
	n = p.put(api.Node{Kind: api.KDo, Kids: []int{n}}, from)
	p.take(";")
	return n, false, nil
}

// exprFirst reads what begins with any other expression.
func (p *parser) exprFirst() (int, bool, error) {
	from := p.next().From
	n, err := p.expr()
	if err != nil || p.is("}") {
		return n, true, err
	}
	s := api.Node{Kind: api.KDo, Kids: []int{n}}
	if p.take("=") {
		n, err := p.expr()
		if err != nil {
			return 0, false, err
		}
		s.Kind, s.Kids = api.KSet, append(s.Kids, n)
	}
	n, err = p.closed(s, from)
	return n, false, err
}

func (p *parser) blocky() (int, error) {
	switch p.next().Text {
	case "if":
		return p.branch()
	case "match":
		return p.match()
	}
	return p.block()
}

// branch reads an if.
func (p *parser) branch() (int, error) {
	from := p.advance().From
	kids, err := p.condAndBlock()
	if err != nil {
		return 0, err
	}
	if p.take("else") {
		n, err := p.otherwise()
		if err != nil {
			return 0, err
		}
		kids = append(kids, n)
	}
	return p.put(api.Node{Kind: api.KIf, Kids: kids}, from), nil
}

// otherwise reads what comes behind else.
func (p *parser) otherwise() (int, error) {
	if p.is("if") {
		return p.deep("else", true, p.branch)
	}
	return p.block()
}

func (p *parser) match() (int, error) {
	from := p.advance().From
	subject, err := p.condition()
	if err != nil {
		return 0, err
	}
	if err := p.expect("{"); err != nil {
		return 0, err
	}
	kids := []int{subject}
	for !p.take("}") {
		n, err := p.arm()
		if err != nil {
			return 0, err
		}
		kids = append(kids, n)
	}
	return p.put(api.Node{Kind: api.KMatch, Kids: kids}, from), nil
}

func (p *parser) arm() (int, error) {
	from := p.next().From
	pattern, err := p.pattern()
	if err != nil {
		return 0, err
	}
	if err := p.expect("=>"); err != nil {
		return 0, err
	}
	value, err := p.armValue()
	if err != nil {
		return 0, err
	}
	return p.put(api.Node{Kind: api.KArm, Kids: []int{pattern, value}}, from), nil
}

// armValue reads what an arm tells, and its comma: a block may do without, and so may what stands last.
func (p *parser) armValue() (int, error) {
	if p.is("{") {
		n, err := p.block()
		if err == nil {
			p.take(",")
		}
		return n, err
	}
	n, err := p.expr()
	if err == nil && !p.take(",") && !p.is("}") {
		return 0, p.unexpected()
	}
	return n, err
}
