package types

import (
	"slices"
	"strings"

	"patina/api"
	"patina/items"
)

// look tells what is wrong first with items and a type of them.
func look(it api.Items, s string) api.Errno {
	if e := items.Check(it); e != api.OK {
		return e
	}
	if !known(it, s) {
		return api.ErrArg
	}
	return api.OK
}

// known tells whether a text is a type of right items.
func known(it api.Items, s string) bool {
	if ref, _ := Ref(s); ref {
		s, _ = Inner(s)
	}
	for {
		inner, points := Inner(s)
		if !points {
			return isWord(s) || isNamed(it, s)
		}
		if strings.HasPrefix(s, "&") { // it stands within another type
			return false
		}
		s = inner
	}
}

// isWord tells whether a text is a type that has no parts and no name of its own.
func isWord(s string) bool { return s == "i64" || s == "bool" || s == "()" }

func isNamed(it api.Items, s string) bool {
	_, isStruct := items.Struct(it, s)
	_, isEnum := items.Enum(it, s)
	return isStruct || isEnum
}

// words are those of a type of right items, or of the payload that a variant has not.
func words(it api.Items, s string) int {
	if s == "" || s == "()" {
		return 0
	}
	if x, there := items.Struct(it, s); there {
		return sum(it, x.Fields)
	}
	most := 0
	e, _ := items.Enum(it, s)
	for _, v := range e.Variants {
		most = max(most, words(it, v.Type))
	}
	return 1 + most // the word, or the tag
}

// sum are the words of fields, one behind the other.
func sum(it api.Items, fields []api.Field) int {
	n := 0
	for _, f := range fields {
		n += words(it, f.Type)
	}
	return n
}

// owns tells of a type of right items whether it may own; what is behind a Box is not gone into, since the Box owns.
func owns(it api.Items, s string) bool {
	if strings.HasPrefix(s, "Box<") {
		return true
	}
	x, _ := items.Struct(it, s)
	e, _ := items.Enum(it, s)
	return slices.ContainsFunc(slices.Concat(x.Fields, e.Variants), func(f api.Field) bool { return owns(it, f.Type) })
}

// behind is the type that one step of a path leads to from a type of right items.
func behind(it api.Items, s string, step int) (string, bool) {
	if step == -1 {
		return Inner(s)
	}
	x, _ := items.Struct(it, s)
	parts := x.Fields
	if step < 0 {
		e, _ := items.Enum(it, s)
		parts, step = e.Variants, -2-step
	}
	if step >= len(parts) || parts[step].Type == "" {
		return "", false
	}
	return parts[step].Type, true
}
