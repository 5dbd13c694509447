package items

import (
	"strings"

	"patina/api"
)

// link is a step of a type: a reference, a Box, or what it ends with; of a tree, with its node.
type link struct {
	kind int
	name string
	node int
}

// chain is a type, from its outermost link to the innermost one.
type chain []link

// chainOf is the type of a right tree's node.
func chainOf(nodes []api.Node, k int) chain {
	var c chain
	for {
		n := nodes[k]
		c = append(c, link{n.Kind, n.Name, k})
		if len(n.Kids) == 0 {
			return c
		}
		k = n.Kids[0]
	}
}

// chainFrom is the type of a text; a text that is none ends with a name that no type has.
func chainFrom(s string) chain {
	var c chain
	for {
		l, inner, points := outermost(s)
		c = append(c, l)
		if !points {
			return c
		}
		s = inner
	}
}

// outermost is a text's first link, and, if it points to something, the text of that.
func outermost(s string) (l link, inner string, points bool) {
	for _, kind := range []int{api.KTyInt, api.KTyBool, api.KTyUnit} {
		if s == word(kind) {
			return link{kind: kind}, "", false
		}
	}
	for _, kind := range []int{api.KTyMut, api.KTyRef, api.KTyBox} { // the word of KTyMut begins with that of KTyRef
		rest, begins := strings.CutPrefix(s, word(kind))
		inner, ends := strings.CutSuffix(rest, closing(kind))
		if begins && ends {
			return link{kind: kind}, inner, true
		}
	}
	return link{kind: api.KTyName, name: s}, "", false
}

// text is the type as tree.Type has it.
func (c chain) text() string {
	var ahead, behind strings.Builder
	for _, l := range c {
		ahead.WriteString(word(l.kind) + l.name)
		behind.WriteString(closing(l.kind))
	}
	return ahead.String() + behind.String()
}

// word is what a kind of type is written with, or begins with; of one with a name nothing.
func word(kind int) string {
	switch kind {
	case api.KTyInt:
		return "i64"
	case api.KTyBool:
		return "bool"
	case api.KTyUnit:
		return "()"
	case api.KTyRef:
		return "&"
	case api.KTyMut:
		return "&mut "
	case api.KTyBox:
		return "Box<"
	}
	return ""
}

// closing is what a kind of type ends with.
func closing(kind int) string {
	if kind == api.KTyBox {
		return ">"
	}
	return ""
}

// end is the innermost link.
func (c chain) end() link { return c[len(c)-1] }

// reference is the first link, from one on, that is a reference.
func (c chain) reference(from int) (link, bool) {
	for _, l := range c[from:] {
		if l.kind == api.KTyRef || l.kind == api.KTyMut {
			return l, true
		}
	}
	return link{}, false
}
