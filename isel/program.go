package isel

import (
	"slices"
	"strconv"

	"patina/api"
	"patina/flow"
	"patina/lir"
	"patina/lookup"
)

// program is what all functions of a program share.
type program struct {
	known   *lookup.Types
	fns     []api.MFn
	numbers map[string]int // of the source's functions, by their names
	mixed   bool           // whether a truth may be another number than 0 and 1
	helpers
}

// newProgram is a program whose helpers are functions of their own, or one function.
func newProgram(m api.Mir, inOne bool) *program {
	known := lookup.New(m.Items)
	p := &program{known: known, fns: m.Fns, numbers: map[string]int{}, mixed: known.Mixed()}
	p.helpers = helpers{inOne: inOne, places: map[string]int{}}
	for k, f := range m.Fns {
		p.numbers[f.Name] = k
	}
	return p
}

// functions are all functions of a program, main first; false: there is something too long among them. Helpers are one function where there would be more than an image may have.
func functions(m api.Mir) ([]api.LFn, bool) {
	l, fits := newProgram(m, false).functions()
	if fits && len(l) > api.MaxItems {
		if shorter, fits := newProgram(m, true).functions(); fits {
			return shorter, true
		}
	}
	return l, fits && len(l) <= lir.MaxFns
}

func (p *program) functions() ([]api.LFn, bool) {
	var l []api.LFn
	for _, k := range p.called() {
		f, fits := p.function(k)
		if !fits {
			return nil, false
		}
		l = append(l, f)
	}
	for _, w := range p.written() {
		f, fits := w.finished()
		if !fits {
			return nil, false
		}
		l = append(l, f)
	}
	return l, true
}

// called are the source's functions that may be called, in the order in which they are found, main first.
func (p *program) called() []int {
	l := []int{p.numbers["main"]}
	seen := make([]bool, len(p.fns))
	seen[l[0]] = true
	for at := 0; at < len(l); at++ {
		blocks := p.fns[l[at]].Blocks
		for _, b := range flow.Order(flow.NextOf(blocks), 0) {
			if k, own := p.numbers[blocks[b].Term.Name]; own && !seen[k] {
				seen[k] = true
				l = append(l, k)
			}
		}
	}
	return l
}

// newName is a name that no function of the source has, and no other helper.
func (p *program) newName(name string) string {
	for n := 0; ; n++ {
		tried := name
		if n > 0 {
			tried += strconv.Itoa(n)
		}
		if _, taken := p.numbers[tried]; !taken && !slices.Contains(p.names, tried) {
			return tried
		}
	}
}
