// Package mirtest is no layer: it has MIR for the tests of layers that take it, read from texts of the form that mir.Text tells, or made by choices.
package mirtest

import (
	"strconv"
	"strings"

	"patina/api"
)

// Program is MIR with the functions of these texts, one for each of the items' own, in their order; false: a text has another form.
func Program(it api.Items, texts ...string) (api.Mir, bool) {
	m := api.Mir{Items: it}
	if len(texts) != len(it.Fns) {
		return api.Mir{}, false
	}
	for k, text := range texts {
		f, right := Function(text)
		if !right {
			return api.Mir{}, false
		}
		f.Params = len(it.Fns[k].Params)
		m.Fns = append(m.Fns, f)
	}
	return m, true
}

// Function is the function of a text, without parameters. The lines of a block stand behind one that begins with bb, whatever follows.
func Function(text string) (api.MFn, bool) {
	lines := strings.Split(strings.TrimSuffix(text, "\n"), "\n")
	name, right := strings.CutPrefix(lines[0], "fn ")
	f := api.MFn{Name: name}
	for _, line := range lines[1:] {
		_, local, isLocal := strings.Cut(line, ": ")
		switch {
		case isLocal:
			f.Locals = append(f.Locals, api.Local{Type: local})
		case strings.HasPrefix(line, "bb"):
			f.Blocks = append(f.Blocks, api.MBlock{})
		case len(f.Blocks) == 0 || !readLine(&f.Blocks[len(f.Blocks)-1], line):
			right = false
		}
	}
	return f, right
}

// readLine puts a statement or an end into a block, and tells whether it was read.
func readLine(b *api.MBlock, line string) bool {
	r := &reader{words: strings.Split(line, " ")}
	if r.isStatement() {
		b.Stmts = append(b.Stmts, r.statement())
	} else {
		b.Term = r.end()
	}
	return !r.wrong && len(r.words) == 0
}

// Place is the place of a text.
func Place(text string) (api.Place, bool) {
	r := &reader{words: []string{text}}
	p := r.place()
	return p, !r.wrong
}

// reader reads words of a line.
type reader struct {
	words []string
	wrong bool
}

// peek is the word at a place of those that are left; empty: there is none.
func (r *reader) peek(k int) string {
	if k >= len(r.words) {
		return ""
	}
	return r.words[k]
}

func (r *reader) next() string {
	w := r.peek(0)
	if len(r.words) > 0 {
		r.words = r.words[1:]
	} else {
		r.wrong = true
	}
	return w
}

// skip reads a word that must be there.
func (r *reader) skip(word string) {
	if r.next() != word {
		r.wrong = true
	}
}

func (r *reader) number() int64 { return r.numberOf(r.next()) }

func (r *reader) numberOf(s string) int64 {
	n, err := strconv.ParseInt(s, 10, 64)
	if err != nil {
		r.wrong = true
	}
	return n
}

func (r *reader) place() api.Place {
	local, isPlace := strings.CutPrefix(r.next(), "_")
	if !isPlace {
		r.wrong = true
	}
	parts := strings.Split(local, ".")
	p := api.Place{Local: int(r.numberOf(parts[0]))}
	for _, part := range parts[1:] {
		variant, isPayload := strings.CutPrefix(part, "@")
		switch {
		case part == "*":
			p.Path = append(p.Path, -1)
		case isPayload:
			p.Path = append(p.Path, -2-int(r.numberOf(variant)))
		default:
			p.Path = append(p.Path, int(r.numberOf(part)))
		}
	}
	return p
}

func (r *reader) operand() api.Operand {
	switch w := r.next(); w {
	case "copy":
		return api.Operand{Kind: api.OCopy, Place: r.place()}
	case "move":
		return api.Operand{Kind: api.OMove, Place: r.place()}
	case "true":
		return api.Operand{Kind: api.OTruth, Num: 1}
	case "false":
		return api.Operand{Kind: api.OTruth}
	case "()":
		return api.Operand{Kind: api.OUnit}
	default:
		return api.Operand{Kind: api.ONum, Num: r.numberOf(w)}
	}
}

// operands are all up to a line's end, or up to the block to which a call leads.
func (r *reader) operands() []api.Operand {
	var l []api.Operand
	for len(r.words) > 0 && r.peek(0) != "->" {
		l = append(l, r.operand())
	}
	return l
}

// isStatement tells whether a line is no end of a block.
func (r *reader) isStatement() bool {
	switch r.peek(0) {
	case "drop", "free", "live", "dead":
		return true
	}
	return r.peek(1) == "=" && r.peek(2) != "call"
}

func (r *reader) statement() api.MStmt {
	kind := api.MSet
	switch r.peek(0) {
	case "drop":
		kind = api.MDrop
	case "free":
		kind = api.MFree
	case "live":
		kind = api.MLive
	case "dead":
		kind = api.MDead
	}
	if kind != api.MSet {
		r.next()
		return api.MStmt{Kind: kind, Place: r.place()}
	}
	p := r.place()
	r.skip("=")
	return api.MStmt{Kind: kind, Place: p, R: r.rvalue()}
}

func (r *reader) rvalue() api.Rvalue {
	switch w := r.peek(0); w {
	case "neg", "not", "box", "ref", "mut", "tag", "make", "pick":
		r.next()
		return r.named(w)
	}
	first := r.operand()
	if len(r.words) == 0 {
		return api.Rvalue{Kind: api.RUse, Args: []api.Operand{first}}
	}
	op := r.next()
	return api.Rvalue{Kind: api.RBin, Op: op, Args: append([]api.Operand{first}, r.operands()...)}
}

// named is an rvalue behind the word that it begins with.
func (r *reader) named(word string) api.Rvalue {
	switch word {
	case "neg":
		return api.Rvalue{Kind: api.RNeg, Args: r.operands()}
	case "not":
		return api.Rvalue{Kind: api.RNot, Args: r.operands()}
	case "box":
		return api.Rvalue{Kind: api.RBox, Args: r.operands()}
	case "ref":
		return api.Rvalue{Kind: api.RRef, Place: r.place()}
	case "mut":
		return api.Rvalue{Kind: api.RMut, Place: r.place()}
	case "tag":
		return api.Rvalue{Kind: api.RTag, Place: r.place()}
	case "make":
		return api.Rvalue{Kind: api.RMake, Name: r.next(), Args: r.operands()}
	}
	return api.Rvalue{Kind: api.RPick, Name: r.next(), Variant: int(r.number()), Args: r.operands()}
}

func (r *reader) end() api.MTerm {
	word := r.peek(0)
	switch word {
	case "goto", "if", "switch", "return", "panic":
		r.next()
	default:
		word = "call"
	}
	switch word {
	case "goto":
		return api.MTerm{Kind: api.TGoto, To: r.blocks(1)}
	case "if":
		return api.MTerm{Kind: api.TIf, Arg: r.operand(), To: r.blocks(2)}
	case "switch":
		return r.choice()
	case "return":
		return api.MTerm{Kind: api.TReturn}
	case "panic":
		return api.MTerm{Kind: api.TPanic, Code: int(r.number())}
	}
	t := api.MTerm{Kind: api.TCall, Place: r.place()}
	r.skip("=")
	r.skip("call")
	t.Name, t.Args = r.next(), r.operands()
	r.skip("->")
	t.To = r.blocks(1)
	return t
}

func (r *reader) choice() api.MTerm {
	t := api.MTerm{Kind: api.TSwitch, Arg: r.operand()}
	for len(r.words) > 1 {
		t.Values = append(t.Values, r.number())
		t.To = append(t.To, r.blocks(1)...)
	}
	t.To = append(t.To, r.blocks(1)...)
	return t
}

func (r *reader) blocks(count int) []int {
	var l []int
	for range count {
		l = append(l, int(r.number()))
	}
	return l
}
