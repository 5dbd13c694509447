package build

import "patina/api"

// finished is the function with its blocks and temporaries in their last order; false: it is too long.
func (b *builder) finished() (api.MFn, bool) {
	if b.long {
		return api.MFn{}, false
	}
	f := api.MFn{Blocks: b.ordered()}
	f.Locals = b.renamed(f.Blocks)
	return f, len(f.Locals) <= MaxTemps
}

// ordered are the blocks that are come to, in the order in which a walk from the first one comes to them, with all that is behind one ahead of the next one.
func (b *builder) ordered() []api.MBlock {
	var l []api.MBlock
	numbers := make([]int, len(b.blocks)) // from 1 on; 0: not come to yet
	due := []int{0}
	for len(due) > 0 {
		k := due[len(due)-1]
		due = due[:len(due)-1]
		if numbers[k] > 0 {
			continue
		}
		l = append(l, b.blocks[k].MBlock)
		numbers[k] = len(l)
		to := b.blocks[k].Term.To
		for i := len(to) - 1; i >= 0; i-- {
			due = append(due, to[i])
		}
	}
	for _, x := range l {
		for i, to := range x.Term.To {
			x.Term.To[i] = numbers[to] - 1
		}
	}
	return l
}

// renamed are the locals without the temporaries that no place names; places are changed to their new numbers, which rise as they are first named.
func (b *builder) renamed(blocks []api.MBlock) []api.Local {
	l := b.locals[:b.named:b.named]
	numbers := make([]int, len(b.locals)) // of temporaries; 0: not named yet
	eachPlace(blocks, func(p *api.Place) {
		if p.Local < b.named { // a place that is not in use, too
			return
		}
		if numbers[p.Local] == 0 {
			numbers[p.Local] = len(l)
			l = append(l, b.locals[p.Local])
		}
		p.Local = numbers[p.Local]
	})
	return l
}

// eachPlace hands on all places, those of operands ahead of an rvalue's, and that ahead of a statement's.
func eachPlace(blocks []api.MBlock, hand func(p *api.Place)) {
	for k := range blocks {
		for i := range blocks[k].Stmts {
			s := &blocks[k].Stmts[i]
			eachOperand(s.R.Args, hand)
			hand(&s.R.Place)
			hand(&s.Place)
		}
		t := &blocks[k].Term
		hand(&t.Arg.Place)
		eachOperand(t.Args, hand)
		hand(&t.Place)
	}
}

func eachOperand(l []api.Operand, hand func(p *api.Place)) {
	for k := range l {
		hand(&l[k].Place)
	}
}
