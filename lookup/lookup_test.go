package lookup

import (
	"math"
	"math/rand"
	"strings"
	"testing"

	"patina/api"
	"patina/items"
	"patina/types"
)

func field(name, text string) api.Field { return api.Field{Name: name, Type: text} }

// sample are items of each kind: those that own by way of others, by way of themselves, and those that own nothing.
func sample() api.Items {
	return api.Items{
		Structs: []api.Struct{
			{Name: "S", Fields: []api.Field{field("a", "i64"), field("b", "Box<S>")}},
			{Name: "None"},
			{Name: "Plain", Fields: []api.Field{field("u", "()"), field("x", "i64"), field("n", "None"), field("m", "Mixed")}},
			{Name: "Outer", Fields: []api.Field{field("p", "Plain"), field("e", "Maybe"), field("z", "i64")}},
		},
		Enums: []api.Enum{
			{Name: "E", Variants: []api.Field{field("A", ""), field("B", "S")}},
			{Name: "Maybe", Variants: []api.Field{field("No", ""), field("Yes", "E"), field("Also", "i64")}},
			{Name: "Mixed", Variants: []api.Field{field("A", "bool"), field("C", ""), field("D", "None")}},
			{Name: "List", Variants: []api.Field{field("End", ""), field("More", "Box<List>")}},
		},
		Fns: []api.Fn{{Name: "main", Ret: "()"}},
	}
}

// texts are types of sample, and texts that are near them.
func texts() []string {
	l := []string{"", "!", "mut", "&", "&mut ", "&mut", "Box<", "Box<>", "Box", "S ", "T", "& S", "main", "&&S", "Box<&S>", "&Box<&mut S>", "&mut &S", "Box<S", "S>"}
	for _, s := range []string{"i64", "bool", "()", "S", "None", "Plain", "Outer", "E", "Maybe", "Mixed", "List"} {
		for _, ahead := range []string{"", "&", "&mut ", "Box<", "&Box<", "&mut Box<Box<", "Box<Box<"} {
			l = append(l, ahead+s+strings.Repeat(">", strings.Count(ahead, "<")))
		}
	}
	return l
}

// What is told is what package types tells.
func TestAsTypes(t *testing.T) {
	it := sample()
	if e := items.Check(it); e != api.OK {
		t.Fatal(e)
	}
	known := New(it)
	right := 0
	for range 2 { // the second time it has been asked
		for _, s := range texts() {
			if got, want := known.Right(s), types.Right(it, s); got != want {
				t.Errorf("%q: right %v", s, got)
			}
			if !types.Right(it, s) {
				continue
			}
			right++
			copied, _ := types.Copy(it, s)
			owns, _ := types.Owns(it, s)
			if known.Copied(s) != copied || known.Owns(s) != owns || IsBox(s) != strings.HasPrefix(s, "Box") {
				t.Errorf("%q: %v %v %v", s, known.Copied(s), known.Owns(s), IsBox(s))
			}
		}
	}
	if right != 2*77 {
		t.Error(right)
	}
}

func TestPathsAsTypes(t *testing.T) {
	it := sample()
	known := New(it)
	r := rand.New(rand.NewSource(15))
	steps := []int{-1, -1, -1, -2, -3, -4, -5, 0, 1, 2, 3, 4, math.MinInt, math.MaxInt}
	fits := 0
	for range 20000 {
		s := texts()[r.Intn(len(texts()))]
		if !types.Right(it, s) {
			continue
		}
		path := make([]int, r.Intn(5))
		for k := range path {
			path[k] = steps[r.Intn(len(steps))]
		}
		want, e := types.At(it, s, path)
		got, ok := known.At(s, path)
		if got != want || ok != (e == api.OK) {
			t.Fatalf("%q %v: %q %v, not %q %v", s, path, got, ok, want, e)
		}
		if ok && len(path) > 1 {
			fits++
		}
	}
	if fits < 60 {
		t.Error(fits)
	}
}

func TestLongPaths(t *testing.T) {
	known := New(sample())
	var path []int
	for len(path) < api.MaxDeep {
		path = append(path, -3, -1)
	}
	if s, ok := known.At("List", path); s != "List" || !ok {
		t.Error(s, ok)
	}
	if s, ok := known.At("List", append(path, -3)); s != "" || ok {
		t.Error(s, ok)
	}
}

func TestParts(t *testing.T) {
	known := New(sample())
	for _, c := range []struct {
		name             string
		fields, variants int // -1: it is none
	}{{"S", 2, -1}, {"None", 0, -1}, {"E", -1, 2}, {"Mixed", -1, 3}, {"i64", -1, -1}, {"", -1, -1}, {"Box<S>", -1, -1}, {"&E", -1, -1}, {"main", -1, -1}} {
		f, isStruct := known.Fields(c.name)
		v, isEnum := known.Variants(c.name)
		if isStruct != (c.fields >= 0) || len(f) != max(c.fields, 0) || isEnum != (c.variants >= 0) || len(v) != max(c.variants, 0) {
			t.Error(c, f, isStruct, v, isEnum)
		}
	}
}
