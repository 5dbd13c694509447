package parse

import "patina/api"

// parser goes through tokens from the front, once, and lays each node behind its kids.
type parser struct {
	tokens []api.Token // the last one is the end, which is never taken
	at     int         // the next one
	depth  int         // how many deep things it stands within
	cond   bool        // it stands in a cond, and in no brackets of it
	nodes  []api.Node
}

func (p *parser) next() api.Token { return p.tokens[p.at] }

// is tells whether the next token is that keyword or sign, or a name of that text: no two kinds share a text.
func (p *parser) is(text string) bool { return p.next().Text == text }

// advance takes the next token, which must not be the end.
func (p *parser) advance() api.Token {
	t := p.next()
	p.at++
	return t
}

// take takes the next token, if it has that text.
func (p *parser) take(text string) bool {
	if !p.is(text) {
		return false
	}
	p.at++
	return true
}

// mut takes a mut that may be there, and tells how many there were.
func (p *parser) mut() int64 {
	if p.take("mut") {
		return 1
	}
	return 0
}

// expect takes tokens of those texts.
func (p *parser) expect(texts ...string) error {
	for _, text := range texts {
		if !p.take(text) {
			return p.unexpected()
		}
	}
	return nil
}

func (p *parser) name() (string, error) {
	if p.next().Kind != api.TkName {
		return "", p.unexpected()
	}
	return p.advance().Text, nil
}

func (p *parser) unexpected() error { return p.wrong(api.ErrExpect) }

// wrong is an error at the next token.
func (p *parser) wrong(code api.Errno) error {
	t := p.next()
	return &fault{api.Diag{Code: code, From: t.From, To: t.To}}
}

// deep reads a deep thing. Whether the next token can begin it is asked first: one that can not is no deep thing.
func (p *parser) deep(thing string, begins bool, read func() (int, error)) (int, error) {
	if !begins {
		return 0, p.unexpected()
	}
	if p.depth == api.MaxDeep {
		return 0, p.wrong(api.ErrDeep)
	}
	p.depth++
	n, err := read()
	p.depth--
	if err != nil {
		return 0, &inside{thing, err}
	}
	return n, nil
}

// list reads parts with commas between, perhaps one behind the last, and the closing sign.
func (p *parser) list(closing string, part func() (int, error)) ([]int, error) {
	var kids []int
	for !p.take(closing) {
		n, err := part()
		if err != nil {
			return nil, err
		}
		kids = append(kids, n)
		if !p.take(",") && !p.is(closing) {
			return nil, p.unexpected()
		}
	}
	return kids, nil
}

// last is where the token ends that was taken last.
func (p *parser) last() int { return p.tokens[p.at-1].To }

// put lays a node that goes from a place to the token that was taken last, and tells its number.
func (p *parser) put(n api.Node, from int) int {
	n.From, n.To = from, p.last()
	p.nodes = append(p.nodes, n)
	return len(p.nodes) - 1
}
