package parse

import "patina/api"

func (p *parser) crate() (int, error) {
	c := api.Node{Kind: api.KCrate}
	for p.next().Kind != api.TkEnd {
		n, err := p.item()
		if err != nil {
			return 0, err
		}
		c.Kids = append(c.Kids, n)
	}
	c.To = p.next().To // all of the source is its, whatever stands there
	p.nodes = append(p.nodes, c)
	return len(p.nodes) - 1, nil
}

func (p *parser) item() (int, error) {
	switch p.next().Text {
	case "fn":
		return p.function()
	case "struct":
		return p.record(api.KStruct, p.field)
	case "enum":
		return p.record(api.KEnum, p.variant)
	}
	return 0, p.unexpected()
}

func (p *parser) function() (int, error) {
	from := p.advance().From
	name, err := p.name()
	if err != nil {
		return 0, err
	}
	if err := p.expect("("); err != nil {
		return 0, err
	}
	kids, err := p.list(")", p.param)
	if err != nil {
		return 0, err
	}
	params := int64(len(kids))
	result, err := p.result()
	if err != nil {
		return 0, err
	}
	body, err := p.block()
	if err != nil {
		return 0, err
	}
	return p.put(api.Node{Kind: api.KFn, Name: name, Num: params, Kids: append(kids, result, body)}, from), nil
}

// result reads a function's result, which is () where none is written.
func (p *parser) result() (int, error) {
	if p.take("->") {
		return p.aType()
	}
	return p.put(api.Node{Kind: api.KTyUnit}, p.last()), nil
}

// record reads a struct or an enum.
func (p *parser) record(kind int, part func() (int, error)) (int, error) {
	from := p.advance().From
	name, err := p.name()
	if err != nil {
		return 0, err
	}
	if err := p.expect("{"); err != nil {
		return 0, err
	}
	kids, err := p.list("}", part)
	if err != nil {
		return 0, err
	}
	return p.put(api.Node{Kind: kind, Name: name, Kids: kids}, from), nil
}

func (p *parser) param() (int, error) {
	from := p.next().From
	return p.named(api.Node{Kind: api.KParam, Num: p.mut()}, from, p.aType)
}

func (p *parser) field() (int, error) {
	return p.named(api.Node{Kind: api.KField}, p.next().From, p.aType)
}

// start reads a field's name and what it starts with.
func (p *parser) start() (int, error) {
	return p.named(api.Node{Kind: api.KInit}, p.next().From, p.expr)
}

// named reads a name, and what comes behind its colon.
func (p *parser) named(n api.Node, from int, value func() (int, error)) (int, error) {
	name, err := p.name()
	if err != nil {
		return 0, err
	}
	if err := p.expect(":"); err != nil {
		return 0, err
	}
	kid, err := value()
	if err != nil {
		return 0, err
	}
	n.Name, n.Kids = name, []int{kid}
	return p.put(n, from), nil
}

func (p *parser) variant() (int, error) {
	from := p.next().From
	name, err := p.name()
	if err != nil {
		return 0, err
	}
	return p.payload(api.Node{Kind: api.KVariant, Name: name}, from, p.aType)
}

// payload reads what may stand in brackets behind a variant's name.
func (p *parser) payload(n api.Node, from int, value func() (int, error)) (int, error) {
	if !p.take("(") {
		return p.put(n, from), nil
	}
	kid, err := value()
	if err != nil {
		return 0, err
	}
	if err := p.expect(")"); err != nil {
		return 0, err
	}
	n.Kids = []int{kid}
	return p.put(n, from), nil
}
