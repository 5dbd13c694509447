package drops

import (
	"slices"

	"patina/api"
	"patina/lookup"
	"patina/types"
)

// drop is a MDrop or a MFree of a place, in memory of its own.
type drop struct {
	kind  int
	place api.Place
}

// statement is a drop at a place in the source.
func (d drop) statement(from, to int) api.MStmt {
	return api.MStmt{Kind: d.kind, Place: d.place, From: from, To: to}
}

// there hands on what drops what is there of a place of a type. Gone are the places within it, none within another one.
func there(known *lookup.Types, p api.Place, of string, gone []api.Place, hand func(d drop)) {
	switch {
	case !known.Owns(of) || slices.ContainsFunc(gone, func(g api.Place) bool { return len(g.Path) == len(p.Path) }):
	case len(gone) == 0:
		hand(drop{api.MDrop, p})
	default:
		rest(known, p, of, gone, hand)
	}
}

// rest hands on what drops what is there of a place that has a gone part.
func rest(known *lookup.Types, p api.Place, of string, gone []api.Place, hand func(d drop)) {
	part := func(number int, t string) {
		there(known, behind(p, number), t, among(gone, len(p.Path), number), hand)
	}
	if inner, isBox := types.Inner(of); isBox { // no reference owns
		part(-1, inner)
		hand(drop{api.MFree, p})
	} else if variants, isEnum := known.Variants(of); isEnum {
		number := slices.MaxFunc(gone, func(a, b api.Place) int { return a.Path[len(p.Path)] - b.Path[len(p.Path)] }).Path[len(p.Path)]
		part(number, variants[-2-number].Type)
	} else {
		fields, _ := known.Fields(of)
		for k, f := range fields {
			part(k, f.Type)
		}
	}
}

// behind is the place one step behind another one.
func behind(p api.Place, number int) api.Place {
	return api.Place{Local: p.Local, Path: append(slices.Clone(p.Path), number)}
}

// among are the places whose paths have a number at a place.
func among(l []api.Place, at, number int) []api.Place {
	var some []api.Place
	for _, p := range l {
		if p.Path[at] == number {
			some = append(some, p)
		}
	}
	return some
}
