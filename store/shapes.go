package store

import (
	"slices"

	"patina/api"
	"patina/types"
)

// Types that have names of their own here.
const (
	numberType = "i64"
	truthType  = "bool"
	unitType   = "()"
)

// Forms of types.
const (
	Plain = iota // numbers, truths, and ()
	Reference
	Box
	Structure
	Choice // an enum
)

// Shape is how values of a type lie in words.
type Shape struct {
	Form   int
	Words  int
	Copied bool
	Owns   bool   // it may own blocks of the heap
	Parts  []Part // a struct's fields, an enum's variants
	behind string // the type to which it points
	target *Shape // that type's shape, once it was asked for
}

// Part is a field, or a variant with its payload, and the word at which it begins.
type Part struct {
	Name  string
	At    int
	Shape *Shape // of a variant without a payload none
}

// Points tells whether values of the type point to something.
func (s *Shape) Points() bool { return s.Form == Reference || s.Form == Box }

// PartOf is the number of the field or variant of a name.
func (s *Shape) PartOf(name string) int {
	return slices.IndexFunc(s.Parts, func(p Part) bool { return p.Name == name })
}

// shapes are the shapes of types by their texts, made when they are first asked for.
type shapes struct {
	items api.Items
	known map[string]*Shape
}

// Shape is the shape of a type.
func (r *Run) Shape(text string) *Shape { return r.shapes.of(text) }

// pointee is the shape of what values of a shape point to.
func (r *Run) pointee(s *Shape) *Shape {
	if s.target == nil {
		s.target = r.shapes.of(s.behind)
	}
	return s.target
}

func (l *shapes) of(text string) *Shape {
	if s, ok := l.known[text]; ok {
		return s
	}
	s := l.made(text)
	l.known[text] = s
	return s
}

// made is a new shape. What a type points to is not looked at, so that a type that holds itself by a Box has one, too.
func (l *shapes) made(text string) *Shape {
	ref, mut := types.Ref(text)
	inner, points := types.Inner(text)
	switch {
	case ref:
		return &Shape{Form: Reference, Words: 1, Copied: !mut, behind: inner}
	case points:
		return &Shape{Form: Box, Words: 1, Owns: true, behind: inner}
	case text == unitType:
		return &Shape{Copied: true}
	case text == numberType, text == truthType:
		return &Shape{Words: 1, Copied: true}
	}
	for _, s := range l.items.Structs {
		if s.Name == text {
			return l.struc(s)
		}
	}
	k := slices.IndexFunc(l.items.Enums, func(e api.Enum) bool { return e.Name == text })
	return l.enum(l.items.Enums[k])
}

func (l *shapes) struc(of api.Struct) *Shape {
	s := &Shape{Form: Structure}
	for _, f := range of.Fields {
		p := l.of(f.Type)
		s.Parts = append(s.Parts, Part{f.Name, s.Words, p})
		s.Words += p.Words
		s.Owns = s.Owns || p.Owns
	}
	return s
}

func (l *shapes) enum(of api.Enum) *Shape {
	s := &Shape{Form: Choice, Words: 1}
	for _, v := range of.Variants {
		var p *Shape
		if v.Type != "" {
			p = l.of(v.Type)
			s.Words = max(s.Words, 1+p.Words)
			s.Owns = s.Owns || p.Owns
		}
		s.Parts = append(s.Parts, Part{v.Name, 1, p})
	}
	return s
}
