package isel

import "patina/api"

// signature is how a function is called: with the words of its parameters one by one, as far as there is room, or with the address of one's words; and, behind them, with the address for the words of its result, if these are more than one.
type signature struct {
	words  []int  // of its parameters
	behind []bool // of which an address is passed
	answer int    // the words of its result
	params int    // of LIR
}

// signatureOf is that of a function of the program. The words of a parameter are passed if there is still room for all that follow.
func (p *program) signatureOf(k int) signature {
	fn := p.fns[k]
	s := signature{answer: p.known.Words(fn.Locals[0].Type)}
	room := api.MaxParams + 1
	if s.answer > 1 {
		s.params++
		room--
	}
	for _, l := range fn.Locals[1 : 1+fn.Params] {
		n := p.known.Words(l.Type)
		s.words = append(s.words, n)
		room -= min(n, 1)
	}
	for _, n := range s.words {
		more := max(n-1, 0) // than the one word of which it is sure that there is room for it
		s.behind = append(s.behind, more > room)
		if more > room {
			more = 0
		}
		room -= more
		s.params += min(n, 1) + more
	}
	return s
}
