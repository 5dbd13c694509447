package parse

import "patina/api"

func (p *parser) aType() (int, error) {
	return p.deep("type", beginsType(p.next()), p.typeWithin)
}

func beginsType(t api.Token) bool {
	switch t.Text {
	case "i64", "bool", "(", "&", "Box":
		return true
	}
	return t.Kind == api.TkName
}

// typeWithin reads a type that the next token begins.
func (p *parser) typeWithin() (int, error) {
	t := p.advance()
	n := api.Node{}
	switch t.Text {
	case "i64":
		n.Kind = api.KTyInt
	case "bool":
		n.Kind = api.KTyBool
	case "(":
		n.Kind = api.KTyUnit
		if err := p.expect(")"); err != nil {
			return 0, err
		}
	case "&":
		return p.reference(t.From)
	case "Box":
		return p.boxType(t.From)
	default:
		n.Kind, n.Name = api.KTyName, t.Text
	}
	return p.put(n, t.From), nil
}

func (p *parser) reference(from int) (int, error) {
	kind := api.KTyRef
	if p.take("mut") {
		kind = api.KTyMut
	}
	to, err := p.aType()
	if err != nil {
		return 0, err
	}
	return p.put(api.Node{Kind: kind, Kids: []int{to}}, from), nil
}

func (p *parser) boxType(from int) (int, error) {
	if err := p.expect("<"); err != nil {
		return 0, err
	}
	to, err := p.aType()
	if err != nil {
		return 0, err
	}
	if err := p.expect(">"); err != nil {
		return 0, err
	}
	return p.put(api.Node{Kind: api.KTyBox, Kids: []int{to}}, from), nil
}
