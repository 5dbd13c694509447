package isel

import (
	"patina/api"
	"patina/types"
)

func (w *function) statement(s *api.MStmt) {
	switch s.Kind {
	case api.MSet:
		value := w.rvalue(&s.R)
		to, _ := w.place(s.Place)
		w.write(to, value)
	case api.MDrop:
		w.look()
		from, t := w.place(s.Place)
		w.drop(from, t, w.isSure(s.Place))
		w.leaveNothing(s.Place, from, t)
	case api.MFree:
		w.look()
		from, t := w.place(s.Place)
		inner, _ := types.Inner(t)
		w.call("rt.free", w.read(from, 1)[0], w.constant(int64(w.known.Words(inner))))
		w.leaveNothing(s.Place, from, t)
	case api.MLive:
		w.leaveNothing(s.Place, w.homes[s.Place.Local], w.fn.Locals[s.Place.Local].Type)
	}
}

// leaveNothing forgets what was at a place, if something may look for it there.
func (w *function) leaveNothing(p api.Place, at spot, t string) {
	if !w.isSure(p) {
		w.forget(at, t)
	}
}

// operand are registers with the words of an operand.
func (w *function) operand(o *api.Operand) []int {
	switch o.Kind {
	case api.ONum, api.OTruth:
		return []int{w.constant(o.Num)}
	case api.OUnit:
		return nil
	}
	from, t := w.place(o.Place)
	value := w.read(from, w.known.Words(t))
	if o.Kind == api.OMove && w.known.Owns(t) && !w.isSure(o.Place) {
		if from.kind == inRegisters {
			for k, r := range value {
				value[k] = w.copied(r)
			}
		}
		w.forget(from, t)
	}
	return value
}

// word is the register with the one word of an operand.
func (w *function) word(o *api.Operand) int { return w.operand(o)[0] }

// rvalue are registers with the words of a value; none of one that may be anything.
func (w *function) rvalue(r *api.Rvalue) []int {
	var value []int
	switch r.Kind {
	case api.RPick:
		value = append(value, w.constant(int64(r.Variant)))
		fallthrough
	case api.RUse, api.RMake:
		for k := range r.Args {
			value = append(value, w.operand(&r.Args[k])...)
		}
		for r.Kind == api.RPick && len(value) < w.known.Words(r.Name) {
			value = append(value, none)
		}
		return value
	case api.RBin:
		return []int{w.sign(r.Op, &r.Args[0], &r.Args[1])}
	case api.RNeg:
		return []int{w.negated(w.word(&r.Args[0]))}
	case api.RNot:
		return []int{w.binary("xor", w.truth(&r.Args[0]), w.constant(1))}
	case api.RBox:
		return []int{w.boxed(w.operand(&r.Args[0]))}
	case api.RTag:
		from, _ := w.place(r.Place)
		return w.read(from, 1)
	}
	return []int{w.lending(r.Place)} // RRef, RMut
}

// boxed is the address of a new block with a value.
func (w *function) boxed(value []int) int {
	at := w.ask("rt.alloc", w.constant(int64(len(value))))
	w.write(spot{kind: behind, base: at}, value)
	return at
}

// lending is the address of a place. Of one without words nobody asks for it.
func (w *function) lending(p api.Place) int {
	at, t := w.place(p)
	if w.known.Words(t) == 0 {
		return w.constant(0)
	}
	return w.address(at)
}

// truth is a register with a truth that is 0 or 1. (Of a word that is another number, as it was set as one in another variant, it is 0.)
func (w *function) truth(o *api.Operand) int {
	r := w.word(o)
	if !w.mixed || o.Kind == api.OTruth || w.plain[o.Place.Local] && !w.lent[o.Place.Local] {
		return r
	}
	one := w.constant(1)
	return w.binary("sltu", w.binary("xor", r, one), one)
}
