package cover

import (
	"slices"

	"patina/api"
	"patina/types"
)

// all is the pattern that fits all values.
const all = "_"

// held is the type of what a subject or a pattern stands for, without a reference ahead.
func held(t api.Typed, n int) string {
	of := t.Types[n]
	if ref, _ := types.Ref(of); ref {
		of, _ = types.Inner(of)
	}
	return of
}

func fitsAll(t api.Typed, n int) bool {
	kind := t.Tree.Nodes[n].Kind
	return kind == api.KPAny || kind == api.KPVar
}

func anyFitsAll(t api.Typed, patterns []int) bool {
	return slices.ContainsFunc(patterns, func(n int) bool { return fitsAll(t, n) })
}

// missing is what is missing from patterns of a type, and whether anything is.
func missing(t api.Typed, patterns []int, of string) (string, bool) {
	if anyFitsAll(t, patterns) {
		return "", false
	}
	if of == "bool" {
		return missingTruth(t, patterns)
	}
	for _, e := range t.Items.Enums {
		if e.Name == of {
			return missingVariant(t, patterns, e)
		}
	}
	return all, true
}

func missingTruth(t api.Typed, patterns []int) (string, bool) {
	for k, text := range []string{"false", "true"} {
		if !hasNum(t, patterns, int64(k)) {
			return text, true
		}
	}
	return "", false
}

func missingVariant(t api.Typed, patterns []int, e api.Enum) (string, bool) {
	for _, v := range e.Variants {
		name := e.Name + "::" + v.Name
		same := ofVariant(t, patterns, name)
		switch {
		case len(same) == 0 && v.Type == "":
			return name, true
		case len(same) == 0:
			return name + "(" + all + ")", true
		case v.Type != "":
			if text, some := missing(t, payloads(t, same), v.Type); some {
				return name + "(" + text + ")", true
			}
		}
	}
	return "", false
}

// covered tells whether all that a pattern fits is fitted by those ahead of it.
func covered(t api.Typed, ahead []int, n int) bool {
	x := t.Tree.Nodes[n]
	switch {
	case anyFitsAll(t, ahead):
		return true
	case fitsAll(t, n):
		_, some := missing(t, ahead, held(t, n))
		return !some
	case x.Kind != api.KPPick:
		return hasNum(t, ahead, x.Num)
	}
	same := ofVariant(t, ahead, x.Name)
	return len(same) > 0 && (len(x.Kids) == 0 || covered(t, payloads(t, same), x.Kids[0]))
}

func hasNum(t api.Typed, patterns []int, v int64) bool {
	return slices.ContainsFunc(patterns, func(n int) bool { return t.Tree.Nodes[n].Num == v })
}

// ofVariant are those of an enum's patterns that name a variant.
func ofVariant(t api.Typed, patterns []int, name string) []int {
	var same []int
	for _, n := range patterns {
		if t.Tree.Nodes[n].Name == name {
			same = append(same, n)
		}
	}
	return same
}

// payloads are the patterns within those of a variant that has a payload.
func payloads(t api.Typed, patterns []int) []int {
	var kids []int
	for _, n := range patterns {
		kids = append(kids, t.Tree.Nodes[n].Kids[0])
	}
	return kids
}
