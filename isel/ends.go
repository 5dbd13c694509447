package isel

import (
	"slices"

	"patina/api"
	"patina/mir"
)

// leave writes a block's end, and tells which block is to be written right behind it; none: there is none.
func (w *function) leave(t *api.MTerm) int {
	switch t.Kind {
	case api.TCall:
		w.callOut(t)
		fallthrough
	case api.TGoto:
		return w.goOn(t.To[0])
	case api.TIf:
		w.choice(t)
	case api.TSwitch:
		w.choices(t)
	case api.TReturn:
		w.look()
		w.answer()
	case api.TPanic:
		w.look()
		w.end(api.LIns{Op: api.LTrap, N: int64(t.Code)})
	}
	return none
}

// goOn goes on to a block: by a jump, or by telling that it is to be written here.
func (w *function) goOn(b int) int {
	if w.ways[b] == 1 {
		return b
	}
	w.lookOnTo(w.start(b))
	return none
}

func (w *function) choice(t *api.MTerm) {
	r := w.truth(&t.Arg)
	w.look()
	w.branch(r, w.start(t.To[0]), w.start(t.To[1]))
}

// choices goes to each block by all numbers that lead to it at once. What one of them needs, no later one does, so its registers are given out again.
func (w *function) choices(t *api.MTerm) {
	r := w.word(&t.Arg)
	w.look()
	other := t.To[len(t.Values)]
	targets := slices.DeleteFunc(mir.Next(*t), func(to int) bool { return to == other })
	mark := w.next
	for k, to := range targets {
		w.next = mark
		if k == len(targets)-1 {
			w.choose(r, numbersOf(t, to), w.start(to), w.start(other))
			return
		}
		next := w.label()
		w.choose(r, numbersOf(t, to), w.start(to), next)
		w.stand(next)
	}
	w.jump(w.start(other))
}

// span is numbers from one up to another one.
type span struct {
	from, to int64
}

// numbersOf are the numbers by which a switch leads to a block.
func numbersOf(t *api.MTerm, to int) []span {
	var l []span
	for k, n := range t.Values {
		if t.To[k] != to {
			continue
		}
		if last := len(l) - 1; last >= 0 && l[last].to+1 == n {
			l[last].to = n
		} else {
			l = append(l, span{n, n})
		}
	}
	return l
}

// choose goes to a label, if a register has one of some numbers, else to another one.
func (w *function) choose(r int, l []span, to, next int) {
	if len(l) == 1 && l[0].from == l[0].to {
		w.branch(w.differs(r, l[0].from), next, to)
		return
	}
	is := w.within(r, l[0])
	mark := w.next
	for _, s := range l[1:] {
		w.next = mark
		w.put(api.LIns{Op: api.LBin, D: is, A: is, B: w.within(r, s), Name: "or"})
	}
	w.branch(is, to, next)
}

// within is a register that is 1, if a register has one of the numbers of a span, else 0.
func (w *function) within(r int, s span) int {
	up := w.binary("sub", r, w.constant(s.from))
	return w.binary("sltu", up, w.constant(s.to-s.from+1))
}

// answer goes back with the result.
func (w *function) answer() {
	value := w.read(w.homes[0], w.signature.answer)
	back := api.LIns{Op: api.LRet, A: none}
	if len(value) == 1 {
		back.A = value[0]
	} else {
		w.write(spot{kind: behind, base: w.out}, value)
	}
	w.end(back)
}

// callOut calls a function, and brings what it answers to its place.
func (w *function) callOut(t *api.MTerm) {
	var value []int
	switch t.Name {
	case "print":
		r := w.word(&t.Args[0])
		w.look()
		w.call("rt.print", r)
	case "read":
		value = []int{w.ask("rt.read")}
	default:
		value = w.callOf(w.signatureOf(w.numbers[t.Name]), t)
	}
	to, _ := w.place(t.Place)
	w.write(to, value)
}

// callOf calls a function of the source: registers with the words that it answers. They may come where its arguments were, which it has taken by then.
func (w *function) callOf(s signature, t *api.MTerm) []int {
	used := 0 // words of the area
	var args []int
	for k := range t.Args {
		value := w.operand(&t.Args[k])
		if s.behind[k] {
			at := w.area(used, len(value))
			used += len(value)
			w.write(at, value)
			value = []int{w.address(at)}
		}
		args = append(args, value...)
	}
	w.look()
	if s.answer > 1 {
		at := w.area(0, s.answer)
		w.call(t.Name, append(args, w.address(at))...)
		return w.read(at, s.answer)
	}
	if s.answer == 1 {
		return []int{w.ask(t.Name, args...)}
	}
	w.call(t.Name, args...)
	return nil
}
