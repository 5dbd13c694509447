package items

import "patina/api"

// fault is what is wrong, and with which node; -1: with none.
type fault struct {
	code api.Errno
	node int
}

func (f fault) diag(nodes []api.Node) api.Diag {
	if f.node < 0 {
		return api.Diag{Code: f.code}
	}
	return api.Diag{Code: f.code, From: nodes[f.node].From, To: nodes[f.node].To}
}

// wrong is what is wrong first, step by step in the chapter's order; each step leans on those ahead of it.
func (o *outline) wrong() fault {
	for _, step := range []func() fault{o.tooMany, o.twice, o.badType, o.endless, o.tooGreat, o.badMain} {
		if f := step(); f.code != api.OK {
			return f
		}
	}
	return fault{}
}

// tooMany is the first item that is one more than there may be of its kind.
func (o *outline) tooMany() fault {
	counts := map[int]int{}
	for _, e := range o.entries {
		counts[e.kind]++
		if counts[e.kind] > api.MaxItems {
			return fault{api.ErrLong, e.node}
		}
	}
	return fault{}
}

// twice is the first item whose name is taken, that has too many parts, or of whose parts two share a name.
func (o *outline) twice() fault {
	for k, e := range o.entries {
		table, most := o.types.names, api.MaxFields
		if e.kind == api.KFn {
			table, most = o.fns.names, api.MaxParams
		}
		if !table.add(e.name, k) {
			return fault{api.ErrDup, e.node}
		}
		if len(e.parts) > most {
			return fault{api.ErrLong, e.node}
		}
		if f := e.partTwice(); f.code != api.OK {
			return f
		}
	}
	return fault{}
}

func (e entry) partTwice() fault {
	inside := newNames()
	for k, p := range e.parts {
		if !inside.add(p.name, k) {
			return fault{api.ErrDup, p.node}
		}
	}
	return fault{}
}

// badType is the first type that is not known, or has a reference where none may be.
func (o *outline) badType() fault {
	for _, e := range o.entries {
		look := o.held
		if e.kind == api.KFn {
			look = o.passed
		}
		if f := e.eachType(look); f.code != api.OK {
			return f
		}
	}
	return fault{}
}

// eachType hands on the item's types, in their order, as far as the first of which a fault is told.
func (e entry) eachType(look func(chain) fault) fault {
	for _, p := range e.parts {
		for _, c := range p.types {
			if f := look(c); f.code != api.OK {
				return f
			}
		}
	}
	if e.kind == api.KFn {
		return look(e.result)
	}
	return fault{}
}

// held looks at the type of a field or a payload.
func (o *outline) held(c chain) fault { return o.lookAt(c, 0) }

// passed looks at the type of a parameter or a result, which may itself be a reference.
func (o *outline) passed(c chain) fault { return o.lookAt(c, 1) }

// lookAt looks at a type in which no link from one on may be a reference.
func (o *outline) lookAt(c chain, from int) fault {
	end := c.end()
	if _, known := o.types.find(end.name); end.kind == api.KTyName && !known {
		return fault{api.ErrUnknown, end.node}
	}
	if l, there := c.reference(from); there {
		return fault{api.ErrInner, l.node}
	}
	return fault{}
}

// endless is the first type that holds itself, or of which there is no value.
func (o *outline) endless() fault {
	for k, e := range o.entries {
		if e.kind == api.KEnum && len(e.parts) == 0 || e.kind != api.KFn && o.holdsItself(k) {
			return fault{api.ErrEndless, e.node}
		}
	}
	return fault{}
}

// badMain tells whether there is a main, without parameters and with the result ().
func (o *outline) badMain() fault {
	k, there := o.fns.find("main")
	if !there {
		return fault{api.ErrMain, -1}
	}
	if e := o.entries[k]; len(e.parts) > 0 || e.result.end().kind != api.KTyUnit || len(e.result) > 1 {
		return fault{api.ErrMain, e.node}
	}
	return fault{}
}
