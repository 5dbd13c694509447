package check

import (
	"slices"

	"patina/api"
	"patina/items"
)

// written is the text of a type that a let names, which must be one that a parameter may have.
func (w *walker) written(n int) string {
	links := w.links(n)
	last := links[len(links)-1]
	end := w.node(last)
	w.must(end.Kind != api.KTyName || w.isType(end.Name), api.ErrUnknown, last)
	for _, k := range links[1:] {
		kind := w.node(k).Kind
		w.must(kind != api.KTyRef && kind != api.KTyMut, api.ErrInner, k)
	}
	text := ""
	for _, k := range slices.Backward(links) {
		text = about(w.node(k), text)
	}
	return text
}

// links are a type's nodes, from the outermost to the innermost one.
func (w *walker) links(n int) []int {
	l := []int{n}
	for kids := w.node(n).Kids; len(kids) > 0; kids = w.node(kids[0]).Kids {
		l = append(l, kids[0])
	}
	return l
}

// isType tells whether a name is a struct's or an enum's.
func (w *walker) isType(name string) bool {
	_, isStruct := items.Struct(w.typed.Items, name)
	_, isEnum := items.Enum(w.typed.Items, name)
	return isStruct || isEnum
}

// about is the text of a type's node about that of its kid.
func about(x api.Node, inner string) string {
	switch x.Kind {
	case api.KTyInt:
		return number
	case api.KTyBool:
		return truth
	case api.KTyUnit:
		return unit
	case api.KTyRef:
		return "&" + inner
	case api.KTyMut:
		return "&mut " + inner
	case api.KTyBox:
		return "Box<" + inner + ">"
	}
	return x.Name
}
