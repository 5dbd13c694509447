// Package lookup tells of the types of right items what package types does. It looks at the items once, where types looks at them in each call: layers that ask it of every place of MIR would wait for that.
package lookup

import (
	"slices"
	"strings"

	"patina/api"
	"patina/types"
)

// Types with names of their own.
const (
	Number = "i64"
	Truth  = "bool"
	Unit   = "()"
)

// Types are the types of items that are right.
type Types struct {
	named map[string]*named
}

// named is a struct or an enum.
type named struct {
	enum  bool
	parts []api.Field // fields, or variants
	asked bool        // whether it owns
	owns  bool
	sized bool // whether its words were asked for
	words int
	at    []int // the words at which fields begin
}

// New are the types of items that are right; the items are not changed while it is asked.
func New(it api.Items) *Types {
	t := &Types{map[string]*named{}}
	for _, s := range it.Structs {
		t.named[s.Name] = &named{parts: s.Fields}
	}
	for _, e := range it.Enums {
		t.named[e.Name] = &named{enum: true, parts: e.Variants}
	}
	return t
}

// Right tells whether a text is a type.
func (t *Types) Right(s string) bool {
	if ref, _ := types.Ref(s); ref {
		s, _ = types.Inner(s)
	}
	for IsBox(s) {
		s, _ = types.Inner(s)
	}
	return isWord(s) || t.named[s] != nil
}

// Copied tells whether values of a type are copied.
func (t *Types) Copied(s string) bool {
	ref, mut := types.Ref(s)
	return isWord(s) || ref && !mut
}

// Owns tells whether a value of a type may own.
func (t *Types) Owns(s string) bool {
	if _, points := types.Inner(s); points { // ahead of the names, so that no long text is looked for among them
		return IsBox(s)
	}
	n := t.named[s]
	if n == nil {
		return false
	}
	if !n.asked {
		n.owns = slices.ContainsFunc(n.parts, func(f api.Field) bool { return t.Owns(f.Type) })
		n.asked = true
	}
	return n.owns
}

// At is the type at a path from a type; false: it leads nowhere.
func (t *Types) At(s string, path []int) (string, bool) {
	if len(path) > api.MaxDeep {
		return "", false
	}
	for _, step := range path {
		next, fits := t.behind(s, step)
		if !fits {
			return "", false
		}
		s = next
	}
	return s, true
}

func (t *Types) behind(s string, step int) (string, bool) {
	inner, points := types.Inner(s)
	if points || step == -1 {
		return inner, points && step == -1
	}
	parts, there := t.Fields(s)
	if step < 0 {
		parts, there = t.Variants(s)
		step = -2 - step
	}
	if !there || step >= len(parts) || parts[step].Type == "" {
		return "", false
	}
	return parts[step].Type, true
}

// Fields are those of a struct, in the items' own memory; false: there is none of that name.
func (t *Types) Fields(name string) ([]api.Field, bool) { return t.parts(name, false) }

// Variants are those of an enum, likewise.
func (t *Types) Variants(name string) ([]api.Field, bool) { return t.parts(name, true) }

func (t *Types) parts(name string, enum bool) ([]api.Field, bool) {
	n := t.named[name]
	if n == nil || n.enum != enum {
		return nil, false
	}
	return n.parts, true
}

// Words are how many words a value of a type takes; of the payload that a variant has not, none.
func (t *Types) Words(s string) int {
	if _, points := types.Inner(s); points {
		return 1
	}
	if n := t.named[s]; n != nil {
		return t.laid(n).words
	}
	if s == Unit || s == "" {
		return 0
	}
	return 1
}

// Offset is the word at which a part of a type begins: a field of a struct, or the payload of an enum, behind its tag.
func (t *Types) Offset(s string, part int) int {
	if n := t.named[s]; !n.enum {
		return t.laid(n).at[part]
	}
	return 1
}

// laid is a struct or an enum of which it is known how its parts lie.
func (t *Types) laid(n *named) *named {
	if n.sized {
		return n
	}
	n.sized = true
	most := 0
	for _, p := range n.parts {
		n.at = append(n.at, n.words)
		w := t.Words(p.Type)
		n.words += w
		most = max(most, w)
	}
	if n.enum { // payloads share their words
		n.words = 1 + most
	}
	return n
}

// Mixed tells whether a truth may be another number than 0 and 1: a reference to a part of an enum may be kept over a change of its variant, so that a number is taken for a truth.
func (t *Types) Mixed() bool {
	for name, n := range t.named {
		if n.enum && slices.ContainsFunc(t.forms(name), t.isMixed) {
			return true
		}
	}
	return false
}

// isMixed tells of all types that a word may have, whether a number there, or behind there, may be taken for a truth.
func (t *Types) isMixed(l []string) bool {
	boxes := 0
	for _, s := range l {
		if IsBox(s) {
			boxes++
		}
	}
	return slices.Contains(l, Truth) && slices.Contains(l, Number) || boxes > 1 && slices.ContainsFunc(l, t.leadsToTruth)
}

// leadsToTruth tells whether a Box leads to a truth.
func (t *Types) leadsToTruth(s string) bool {
	seen := map[string]int{}
	work := []string{s}
	for len(work) > 0 {
		s, work = work[0], work[1:]
		for IsBox(s) {
			if s, _ = types.Inner(s); s == Truth {
				return true
			}
		}
		n := t.named[s]
		if seen[s]++; n == nil || seen[s] > 1 {
			continue
		}
		for _, p := range n.parts {
			if p.Type == Truth {
				return true
			}
			work = append(work, p.Type)
		}
	}
	return false
}

// forms are the types that each word of a value of a type may have: those of its parts, and that of a tag.
func (t *Types) forms(s string) [][]string {
	l := make([][]string, t.Words(s))
	n := t.named[s]
	if n == nil {
		for k := range l {
			l[k] = []string{s}
		}
		return l
	}
	if n.enum {
		l[0] = []string{Number}
	}
	for k, p := range n.parts {
		for word, more := range t.forms(p.Type) {
			at := t.Offset(s, k) + word
			for _, form := range more {
				if !slices.Contains(l[at], form) {
					l[at] = append(l[at], form)
				}
			}
		}
	}
	return l
}

// IsBox tells of a type whether it is a Box.
func IsBox(s string) bool { return strings.HasPrefix(s, "Box<") && strings.HasSuffix(s, ">") }

func isWord(s string) bool { return s == Number || s == Truth || s == Unit }
