// Package lookup tells of the types of right items what package types does. It looks at the items once, where types looks at them in each call: layers that ask it of every place of MIR would wait for that.
package lookup

import (
	"slices"
	"strings"

	"patina/api"
	"patina/types"
)

// Types with names of their own.
const (
	Number = "i64"
	Truth  = "bool"
	Unit   = "()"
)

// Types are the types of items that are right.
type Types struct {
	named map[string]*named
}

// named is a struct or an enum.
type named struct {
	enum  bool
	parts []api.Field // fields, or variants
	asked bool        // whether it owns
	owns  bool
}

// New are the types of items that are right; the items are not changed while it is asked.
func New(it api.Items) *Types {
	t := &Types{map[string]*named{}}
	for _, s := range it.Structs {
		t.named[s.Name] = &named{parts: s.Fields}
	}
	for _, e := range it.Enums {
		t.named[e.Name] = &named{enum: true, parts: e.Variants}
	}
	return t
}

// Right tells whether a text is a type.
func (t *Types) Right(s string) bool {
	if ref, _ := types.Ref(s); ref {
		s, _ = types.Inner(s)
	}
	for IsBox(s) {
		s, _ = types.Inner(s)
	}
	return isWord(s) || t.named[s] != nil
}

// Copied tells whether values of a type are copied.
func (t *Types) Copied(s string) bool {
	ref, mut := types.Ref(s)
	return isWord(s) || ref && !mut
}

// Owns tells whether a value of a type may own.
func (t *Types) Owns(s string) bool {
	if _, points := types.Inner(s); points { // ahead of the names, so that no long text is looked for among them
		return IsBox(s)
	}
	n := t.named[s]
	if n == nil {
		return false
	}
	if !n.asked {
		n.owns = slices.ContainsFunc(n.parts, func(f api.Field) bool { return t.Owns(f.Type) })
		n.asked = true
	}
	return n.owns
}

// At is the type at a path from a type; false: it leads nowhere.
func (t *Types) At(s string, path []int) (string, bool) {
	if len(path) > api.MaxDeep {
		return "", false
	}
	for _, step := range path {
		next, fits := t.behind(s, step)
		if !fits {
			return "", false
		}
		s = next
	}
	return s, true
}

func (t *Types) behind(s string, step int) (string, bool) {
	inner, points := types.Inner(s)
	if points || step == -1 {
		return inner, points && step == -1
	}
	parts, there := t.Fields(s)
	if step < 0 {
		parts, there = t.Variants(s)
		step = -2 - step
	}
	if !there || step >= len(parts) || parts[step].Type == "" {
		return "", false
	}
	return parts[step].Type, true
}

// Fields are those of a struct, in the items' own memory; false: there is none of that name.
func (t *Types) Fields(name string) ([]api.Field, bool) { return t.parts(name, false) }

// Variants are those of an enum, likewise.
func (t *Types) Variants(name string) ([]api.Field, bool) { return t.parts(name, true) }

func (t *Types) parts(name string, enum bool) ([]api.Field, bool) {
	n := t.named[name]
	if n == nil || n.enum != enum {
		return nil, false
	}
	return n.parts, true
}

// IsBox tells of a type whether it is a Box.
func IsBox(s string) bool { return strings.HasPrefix(s, "Box<") && strings.HasSuffix(s, ">") }

func isWord(s string) bool { return s == Number || s == Truth || s == Unit }
