package eval

import (
	"slices"

	"patina/api"
	"patina/types"
)

// Types that have names of their own here.
const (
	numberType = "i64"
	truthType  = "bool"
	unitType   = "()"
	neverType  = "!"
)

// Forms of types.
const (
	plain = iota // numbers, truths, and ()
	reference
	box
	structure
	choice // an enum
)

// shape is how values of a type lie in words.
type shape struct {
	form   int
	words  int
	copied bool
	owns   bool   // it may own blocks of the heap
	behind string // the type to which it points
	parts  []part // a struct's fields, an enum's variants
}

// part is a field, or a variant with its payload, and the word at which it begins.
type part struct {
	name  string
	at    int
	shape *shape // of a variant without a payload none
}

// shapes are the shapes of types by their texts, made when they are first asked for.
type shapes struct {
	items api.Items
	known map[string]*shape
}

func (l *shapes) of(text string) *shape {
	if s, ok := l.known[text]; ok {
		return s
	}
	s := l.made(text)
	l.known[text] = s
	return s
}

// made is a new shape. What a type points to is not looked at, so that a type that holds itself by a Box has one, too.
func (l *shapes) made(text string) *shape {
	ref, mut := types.Ref(text)
	inner, points := types.Inner(text)
	switch {
	case ref:
		return &shape{form: reference, words: 1, copied: !mut, behind: inner}
	case points:
		return &shape{form: box, words: 1, owns: true, behind: inner}
	case text == unitType:
		return &shape{copied: true}
	case text == numberType, text == truthType:
		return &shape{words: 1, copied: true}
	}
	for _, s := range l.items.Structs {
		if s.Name == text {
			return l.struc(s)
		}
	}
	k := slices.IndexFunc(l.items.Enums, func(e api.Enum) bool { return e.Name == text })
	return l.enum(l.items.Enums[k])
}

func (l *shapes) struc(of api.Struct) *shape {
	s := &shape{form: structure}
	for _, f := range of.Fields {
		p := l.of(f.Type)
		s.parts = append(s.parts, part{f.Name, s.words, p})
		s.words += p.words
		s.owns = s.owns || p.owns
	}
	return s
}

func (l *shapes) enum(of api.Enum) *shape {
	s := &shape{form: choice, words: 1}
	for _, v := range of.Variants {
		var p *shape
		if v.Type != "" {
			p = l.of(v.Type)
			s.words = max(s.words, 1+p.words)
			s.owns = s.owns || p.owns
		}
		s.parts = append(s.parts, part{v.Name, 1, p})
	}
	return s
}

// partOf is the number of the field or variant of a name.
func (s *shape) partOf(name string) int {
	return slices.IndexFunc(s.parts, func(p part) bool { return p.name == name })
}
