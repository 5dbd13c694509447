package parse

import "patina/api"

func (p *parser) pattern() (int, error) {
	return p.deep("pattern", beginsPattern(p.next()), p.patternWithin)
}

func beginsPattern(t api.Token) bool {
	switch t.Text {
	case "_", "-", "true", "false":
		return true
	}
	return t.Kind == api.TkName || t.Kind == api.TkNum
}

// patternWithin reads a pattern that the next token begins.
func (p *parser) patternWithin() (int, error) {
	t := p.advance()
	n := api.Node{}
	switch {
	case t.Kind == api.TkName && p.take("::"):
		return p.pick(api.KPPick, t, p.pattern)
	case t.Kind == api.TkName:
		n.Kind, n.Name = api.KPVar, t.Text
	case t.Kind == api.TkNum:
		n.Kind, n.Num = api.KPNum, t.Num
	case t.Text == "-" && p.next().Kind == api.TkNum:
		n.Kind, n.Num = api.KPNum, -p.advance().Num
	case t.Text == "-":
		return 0, p.unexpected()
	case t.Text == "_":
		n.Kind = api.KPAny
	default:
		n.Kind, n.Num = api.KPTruth, truth(t)
	}
	return p.put(n, t.From), nil
}

// truth is the number of true or false.
func truth(t api.Token) int64 {
	if t.Text == "true" {
		return 1
	}
	return 0
}

// pick reads what comes behind a name and :: , in an expression or a pattern.
func (p *parser) pick(kind int, enum api.Token, value func() (int, error)) (int, error) {
	name, err := p.name()
	if err != nil {
		return 0, err
	}
	return p.payload(api.Node{Kind: kind, Name: enum.Text + "::" + name}, enum.From, value)
}
