package build

import (
	"slices"
	"strings"

	"patina/api"
	"patina/types"
)

func isPlace(kind int) bool { return kind == api.KVar || kind == api.KGet || kind == api.KStar }

// place is the place that an expression is.
func (b *builder) place(n int) api.Place {
	x := b.node(n)
	switch x.Kind {
	case api.KStar:
		p := b.base(x.Kids[0])
		p.Path = append(p.Path, -1)
		return p
	case api.KGet:
		return b.field(x)
	}
	return whole(b.typed.Vars[n] + 1)
}

// base is the place that a KGet or a KStar stands on, in new memory.
func (b *builder) base(n int) api.Place {
	if isPlace(b.node(n).Kind) {
		return b.place(n)
	}
	return b.brought(n)
}

// field is a field's place, behind all references and Boxes.
func (b *builder) field(x *api.Node) api.Place {
	p := b.base(x.Kids[0])
	t := b.typed.Types[x.Kids[0]]
	for inner, points := types.Inner(t); points; inner, points = types.Inner(t) {
		p.Path = append(p.Path, -1)
		t = inner
	}
	p.Path = append(p.Path, b.fieldNumber(t, x.Name))
	return p
}

func (b *builder) fieldNumber(of, name string) int {
	fields, _ := b.types.Fields(of)
	return numberOf(fields, name)
}

// variant is the enum and the number of a variant of a name with ::.
func (b *builder) variant(name string) (string, int) {
	enum, variant, _ := strings.Cut(name, "::")
	variants, _ := b.types.Variants(enum)
	return enum, numberOf(variants, variant)
}

func numberOf(l []api.Field, name string) int {
	return slices.IndexFunc(l, func(f api.Field) bool { return f.Name == name })
}
