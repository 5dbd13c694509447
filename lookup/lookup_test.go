package lookup

import (
	"math"
	"math/rand"
	"strings"
	"testing"

	"patina/api"
	"patina/items"
	"patina/types"
)

func field(name, text string) api.Field { return api.Field{Name: name, Type: text} }

// sample are items of each kind: those that own by way of others, by way of themselves, and those that own nothing.
func sample() api.Items {
	return api.Items{
		Structs: []api.Struct{
			{Name: "S", Fields: []api.Field{field("a", "i64"), field("b", "Box<S>")}},
			{Name: "None"},
			{Name: "Plain", Fields: []api.Field{field("u", "()"), field("x", "i64"), field("n", "None"), field("m", "Mixed")}},
			{Name: "Outer", Fields: []api.Field{field("p", "Plain"), field("e", "Maybe"), field("z", "i64")}},
		},
		Enums: []api.Enum{
			{Name: "E", Variants: []api.Field{field("A", ""), field("B", "S")}},
			{Name: "Maybe", Variants: []api.Field{field("No", ""), field("Yes", "E"), field("Also", "i64")}},
			{Name: "Mixed", Variants: []api.Field{field("A", "bool"), field("C", ""), field("D", "None")}},
			{Name: "List", Variants: []api.Field{field("End", ""), field("More", "Box<List>")}},
		},
		Fns: []api.Fn{{Name: "main", Ret: "()"}},
	}
}

// texts are types of sample, and texts that are near them.
func texts() []string {
	l := []string{"", "!", "mut", "&", "&mut ", "&mut", "Box<", "Box<>", "Box", "S ", "T", "& S", "main", "&&S", "Box<&S>", "&Box<&mut S>", "&mut &S", "Box<S", "S>"}
	for _, s := range []string{"i64", "bool", "()", "S", "None", "Plain", "Outer", "E", "Maybe", "Mixed", "List"} {
		for _, ahead := range []string{"", "&", "&mut ", "Box<", "&Box<", "&mut Box<Box<", "Box<Box<"} {
			l = append(l, ahead+s+strings.Repeat(">", strings.Count(ahead, "<")))
		}
	}
	return l
}

// What is told is what package types tells.
func TestAsTypes(t *testing.T) {
	it := sample()
	if e := items.Check(it); e != api.OK {
		t.Fatal(e)
	}
	known := New(it)
	right := 0
	for range 2 { // the second time it has been asked
		for _, s := range texts() {
			if got, want := known.Right(s), types.Right(it, s); got != want {
				t.Errorf("%q: right %v", s, got)
			}
			if !types.Right(it, s) {
				continue
			}
			right++
			copied, _ := types.Copy(it, s)
			owns, _ := types.Owns(it, s)
			if known.Copied(s) != copied || known.Owns(s) != owns || IsBox(s) != strings.HasPrefix(s, "Box") {
				t.Errorf("%q: %v %v %v", s, known.Copied(s), known.Owns(s), IsBox(s))
			}
		}
	}
	if right != 2*77 {
		t.Error(right)
	}
}

func TestPathsAsTypes(t *testing.T) {
	it := sample()
	known := New(it)
	r := rand.New(rand.NewSource(15))
	steps := []int{-1, -1, -1, -2, -3, -4, -5, 0, 1, 2, 3, 4, math.MinInt, math.MaxInt}
	fits := 0
	for range 20000 {
		s := texts()[r.Intn(len(texts()))]
		if !types.Right(it, s) {
			continue
		}
		path := make([]int, r.Intn(5))
		for k := range path {
			path[k] = steps[r.Intn(len(steps))]
		}
		want, e := types.At(it, s, path)
		got, ok := known.At(s, path)
		if got != want || ok != (e == api.OK) {
			t.Fatalf("%q %v: %q %v, not %q %v", s, path, got, ok, want, e)
		}
		if ok && len(path) > 1 {
			fits++
		}
	}
	if fits < 60 {
		t.Error(fits)
	}
}

func TestLongPaths(t *testing.T) {
	known := New(sample())
	var path []int
	for len(path) < api.MaxDeep {
		path = append(path, -3, -1)
	}
	if s, ok := known.At("List", path); s != "List" || !ok {
		t.Error(s, ok)
	}
	if s, ok := known.At("List", append(path, -3)); s != "" || ok {
		t.Error(s, ok)
	}
}

func TestParts(t *testing.T) {
	known := New(sample())
	for _, c := range []struct {
		name             string
		fields, variants int // -1: it is none
	}{{"S", 2, -1}, {"None", 0, -1}, {"E", -1, 2}, {"Mixed", -1, 3}, {"i64", -1, -1}, {"", -1, -1}, {"Box<S>", -1, -1}, {"&E", -1, -1}, {"main", -1, -1}} {
		f, isStruct := known.Fields(c.name)
		v, isEnum := known.Variants(c.name)
		if isStruct != (c.fields >= 0) || len(f) != max(c.fields, 0) || isEnum != (c.variants >= 0) || len(v) != max(c.variants, 0) {
			t.Error(c, f, isStruct, v, isEnum)
		}
	}
}

// Words and offsets are those that package types tells, of a type of one part or of many, and asked again.
func TestWordsAsTypes(t *testing.T) {
	it := sample()
	known := New(it)
	for range 2 {
		for _, s := range texts() {
			want, e := types.Words(it, s)
			if e == api.OK && known.Words(s) != want {
				t.Errorf("%q: %d, not %d", s, known.Words(s), want)
			}
			for k := range 4 {
				want, e := types.Offset(it, s, k)
				if e == api.OK && known.Offset(s, k) != want {
					t.Errorf("%q, %d: %d, not %d", s, k, known.Offset(s, k), want)
				}
			}
			variants, _ := known.Variants(s)
			for k := range variants {
				if known.Offset(s, k) != 1 {
					t.Errorf("%q: the payload of %d begins at %d", s, k, known.Offset(s, k))
				}
			}
		}
	}
	if known.Words("") != 0 || known.Words("Outer") != 8 || known.Offset("Outer", 2) != 7 {
		t.Error(known.Words(""), known.Words("Outer"), known.Offset("Outer", 2))
	}
}

// A truth may be another number where a number can be written over it, in another variant, or behind an address that is.
func TestMixed(t *testing.T) {
	enum := func(name string, types ...string) api.Enum {
		e := api.Enum{Name: name}
		for k, s := range types {
			e.Variants = append(e.Variants, field("abcdefgh"[k:k+1], s))
		}
		return e
	}
	structs := []api.Struct{
		{Name: "NT", Fields: []api.Field{field("n", "i64"), field("t", "bool")}}, {Name: "TN", Fields: []api.Field{field("t", "bool"), field("n", "i64")}},
		{Name: "UT", Fields: []api.Field{field("u", "()"), field("t", "bool")}}, {Name: "BB", Fields: []api.Field{field("a", "Box<i64>"), field("b", "Box<BB>")}}, {Name: "BT", Fields: []api.Field{field("a", "Box<BT>"), field("b", "Box<NT>")}},
	}
	for _, c := range []struct {
		enums []api.Enum
		want  bool
	}{
		{nil, false}, {[]api.Enum{enum("E", "i64", "bool")}, true}, {[]api.Enum{enum("E", "bool", "", "bool")}, false}, {[]api.Enum{enum("E", "NT", "NT", "i64")}, false}, {[]api.Enum{enum("E", "NT", "TN")}, true}, {[]api.Enum{enum("E", "NT", "UT")}, true}, {[]api.Enum{enum("E", "UT", "bool", "()")}, false},
		{[]api.Enum{enum("E", "F", "bool"), enum("F", "")}, true}, {[]api.Enum{enum("E", "F", "i64"), enum("F", "bool")}, false}, {[]api.Enum{enum("E", "NT", "F"), enum("F", "i64")}, true}, {[]api.Enum{enum("E", "TN", "Box<bool>")}, false},
		{[]api.Enum{enum("E", "Box<i64>", "Box<bool>")}, true}, {[]api.Enum{enum("E", "Box<i64>", "Box<Box<i64>>", "i64")}, false}, {[]api.Enum{enum("E", "Box<i64>", "Box<Box<NT>>")}, true}, {[]api.Enum{enum("E", "Box<bool>", "Box<bool>")}, false}, {[]api.Enum{enum("E", "Box<i64>", "BB")}, false}, {[]api.Enum{enum("E", "BT", "BB")}, true}, {[]api.Enum{enum("E", "Box<E>", "Box<F>"), enum("F", "", "Box<E>")}, false}, {[]api.Enum{enum("E", "Box<E>", "Box<F>"), enum("F", "UT", "Box<E>")}, true},
	} {
		it := api.Items{Structs: structs, Enums: c.enums, Fns: []api.Fn{{Name: "main", Ret: "()"}}}
		if e := items.Check(it); e != api.OK || New(it).Mixed() != c.want {
			t.Error(e, c)
		}
	}
}
