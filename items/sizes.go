package items

import "patina/api"

// size is how many parts and words a type has; beyond the limits, one more than them.
type size struct {
	parts, words int
}

func (s size) plus(t size) size {
	return size{min(s.parts+t.parts, MaxParts+1), min(s.words+t.words, api.MaxWords+1)}
}

// tooGreat is the first type with more parts or words than there may be.
func (o *outline) tooGreat() fault {
	for k, e := range o.entries {
		if e.kind == api.KFn {
			continue
		}
		if s := o.sizeOf(k); s.parts > MaxParts || s.words > api.MaxWords {
			return fault{api.ErrLong, e.node}
		}
	}
	return fault{}
}

// sizeOf is the size of a struct or enum that does not hold itself.
func (o *outline) sizeOf(k int) size {
	if s := o.types.sizes[k]; s.parts > 0 {
		return s
	}
	e := o.entries[k]
	sum, most := size{parts: 1}, 0
	for _, p := range e.parts {
		for _, c := range p.types {
			s := o.chainSize(c)
			sum, most = sum.plus(s), max(most, s.words)
		}
	}
	if e.kind == api.KEnum { // its payloads share their words, behind the tag
		sum = size{parts: sum.parts}.plus(size{words: 1 + most})
	}
	o.types.sizes[k] = sum
	return sum
}

func (o *outline) chainSize(c chain) size {
	if k, there := o.heldBy(c); there {
		return o.sizeOf(k)
	}
	if c[0].kind == api.KTyUnit {
		return size{parts: 1}
	}
	return size{parts: 1, words: 1}
}

// heldBy is the place of the struct or enum that a type is; what is behind a Box or a reference is not held.
func (o *outline) heldBy(c chain) (int, bool) {
	if c[0].kind != api.KTyName {
		return 0, false
	}
	return o.types.find(c[0].name)
}

// holdsItself tells whether a struct or an enum holds itself.
func (o *outline) holdsItself(k int) bool {
	seen := make([]bool, len(o.entries))
	todo := []int{k}
	for len(todo) > 0 && !seen[k] {
		last := len(todo) - 1
		e := o.entries[todo[last]]
		todo = todo[:last]
		for _, p := range e.parts {
			for _, c := range p.types {
				if next, there := o.heldBy(c); there && !seen[next] {
					seen[next] = true
					todo = append(todo, next)
				}
			}
		}
	}
	return seen[k]
}
