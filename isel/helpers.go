package isel

import "patina/api"

// What helpers are for.
const (
	toDrop  = "drop"  // what is in a block, or elsewhere, is dropped, and the block ends
	toFree  = "free"  // a block ends
	toUnbox = "unbox" // blocks that hold nothing but the address of the next one end
	toCheck = "check" // the program ends, if something went over, or was divided by nought
	toHelp  = "help"  // all of that
)

// helperParams is how many parameters each of them has; what it is, is one more of that function that is all of them.
const helperParams = 2

// helpers are functions that are not the source's, in the order in which they were asked for.
type helpers struct {
	inOne  bool           // they are one function
	places map[string]int // by what they are for, and the type that they are for
	names  []string
	work   []struct { // what they do, from a label on
		of    string
		write func(w *writer, of string, start int)
	}
}

// helper is the place of the helper that is for something, and for a type.
func (p *program) helper(what, of string, write func(w *writer, of string, start int)) int {
	key := what + " " + of
	if k, there := p.places[key]; there {
		return k
	}
	k := len(p.work)
	p.places[key] = k
	p.names = append(p.names, p.newName(what))
	p.work = append(p.work, struct {
		of    string
		write func(w *writer, of string, start int)
	}{of, write})
	return k
}

// help calls a helper with its two arguments; what it answers comes to a register, or, if that is none, is let go.
func (w *writer) help(d, helper, a, b int) {
	i := api.LIns{Op: api.LCall, D: d, Name: w.names[helper], Args: []int{a, b}}
	if w.inOne {
		i.Name = w.newName(toHelp)
		i.Args = append(i.Args, w.constant(int64(helper)))
	}
	w.put(i)
}

// written are the writers of helpers that have written all of them. What one does may ask for others.
func (p *program) written() []*writer {
	if p.inOne {
		return []*writer{p.together()}
	}
	var l []*writer
	for k := 0; k < len(p.work); k++ {
		w := &writer{program: p, f: api.LFn{Name: p.names[k], Params: helperParams}}
		w.keep(helperParams)
		p.work[k].write(w, p.work[k].of, w.label())
		l = append(l, w)
	}
	return l
}

// together is the writer of one function that is all helpers.
func (p *program) together() *writer {
	const which = helperParams
	w := &writer{program: p, f: api.LFn{Name: p.newName(toHelp), Params: helperParams + 1}}
	w.keep(helperParams + 1)
	choice := w.label()
	w.stand(w.label())
	w.jump(choice)
	var starts []int
	for k := 0; k < len(p.work); k++ {
		starts = append(starts, w.label())
		p.work[k].write(w, p.work[k].of, starts[k])
		w.spare()
	}
	w.stand(choice)
	for k, start := range starts {
		next := w.label()
		w.branch(w.differs(which, int64(k)), next, start)
		w.stand(next)
		w.spare()
	}
	w.end(api.LIns{Op: api.LRet, A: none})
	return w
}
