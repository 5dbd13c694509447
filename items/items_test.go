package items

import (
	"math/rand"
	"slices"
	"strings"
	"testing"

	"patina/api"
	"patina/tree"
)

// 14.1: what items are, each in its list, in the order of the tree, with types' texts as tree has them.
func TestItems(t *testing.T) {
	x := treeOf(t, "fn g(mut a: & mut S, b: Box < Box<()> >) -> & E { } struct S { a: i64, b: bool, c: (), d: Box<S>, e: T } enum E { A, B(S), C(Box<E>), D(()) } fn main() -> () { } struct T { } enum main { a } fn f(x: T) { }")
	it, d := Of(x)
	want := api.Items{
		Structs: []api.Struct{{Name: "S", Fields: []api.Field{{Name: "a", Type: "i64"}, {Name: "b", Type: "bool"}, {Name: "c", Type: "()"}, {Name: "d", Type: "Box<S>"}, {Name: "e", Type: "T"}}}, {Name: "T"}},
		Enums:   []api.Enum{{Name: "E", Variants: []api.Field{{Name: "A"}, {Name: "B", Type: "S"}, {Name: "C", Type: "Box<E>"}, {Name: "D", Type: "()"}}}, {Name: "main", Variants: []api.Field{{Name: "a"}}}},
		Fns: []api.Fn{
			{Name: "g", Params: []api.Field{{Name: "a", Type: "&mut S"}, {Name: "b", Type: "Box<Box<()>>"}}, Muts: []bool{true, false}, Ret: "&E"}, {Name: "main", Ret: "()"},
			{Name: "f", Params: []api.Field{{Name: "x", Type: "T"}}, Muts: []bool{false}, Ret: "()"},
		},
	}
	plain, named := withoutNodes(it, x)
	if d != (api.Diag{}) || !named || !Same(plain, want) {
		t.Error(it, d)
	}
	for _, f := range it.Fns { // the types are those that tree tells
		n := x.Nodes[f.Node]
		for k, p := range f.Params {
			if s, e := tree.Type(x, x.Nodes[n.Kids[k]].Kids[0]); s != p.Type || e != api.OK {
				t.Error(s, e, p)
			}
		}
		if s, e := tree.Type(x, n.Kids[n.Num]); s != f.Ret || e != api.OK {
			t.Error(s, e, f)
		}
	}
	if it.Fns[0].Node >= it.Fns[1].Node || it.Fns[1].Node >= it.Fns[2].Node {
		t.Error("Nodes", it.Fns)
	}
}

// 14.3: names that are there, and names that are not.
func TestFind(t *testing.T) {
	it := sample()
	if s, ok := Struct(it, "S"); !ok || s.Name != "S" || !slices.Equal(s.Fields, it.Structs[0].Fields) {
		t.Error(s, ok)
	}
	if s, ok := Struct(it, "T"); !ok || s.Name != "T" || len(s.Fields) != 0 {
		t.Error(s, ok)
	}
	if e, ok := Enum(it, "E"); !ok || e.Name != "E" || !slices.Equal(e.Variants, it.Enums[0].Variants) {
		t.Error(e, ok)
	}
	if e, ok := Enum(it, "F"); !ok || e.Name != "F" || len(e.Variants) != 1 {
		t.Error(e, ok)
	}
	for k, name := range []string{"f", "main", "S"} {
		if f, ok := Fn(it, name); f != k || !ok {
			t.Error(name, f, ok)
		}
	}
	for k, f := range it.Structs[0].Fields {
		if i, s, ok := Field(it, "S", f.Name); i != k || s != f.Type || !ok {
			t.Error(f, i, s, ok)
		}
	}
	for name, want := range map[string][2]int{"E::A": {0, 0}, "E::B": {0, 1}, "E::C": {0, 2}, "F::A": {1, 0}} {
		if e, v, ok := Variant(it, name); e != want[0] || v != want[1] || !ok {
			t.Error(name, e, v, ok)
		}
	}
}

// 14.3: beside a false zeros.
func TestFindNothing(t *testing.T) {
	for _, it := range []api.Items{sample(), {}} {
		for _, name := range []string{"", "U", "E", "f", "main", "a", "s", "S ", "S::a", "E::A", "&S", "Box<S>"} {
			if s, ok := Struct(it, name); ok || s.Name != "" || len(s.Fields) != 0 {
				t.Error(name, s)
			}
		}
		for _, name := range []string{"", "U", "S", "T", "f", "A", "E::A", "e"} {
			if e, ok := Enum(it, name); ok || e.Name != "" || len(e.Variants) != 0 {
				t.Error(name, e)
			}
		}
		for _, name := range []string{"", "E", "T", "print", "read", "panic", "Main", "x"} {
			if f, ok := Fn(it, name); ok || f != 0 {
				t.Error(name, f)
			}
		}
		for _, c := range [][2]string{{"S", "c"}, {"S", ""}, {"S", "i64"}, {"T", "a"}, {"U", "a"}, {"E", "A"}, {"", "a"}, {"", ""}, {"f", "x"}, {"a", "S"}} {
			if k, s, ok := Field(it, c[0], c[1]); ok || k != 0 || s != "" {
				t.Error(c, k, s)
			}
		}
		for _, name := range []string{"", "::", "E", "A", "E::", "::A", "E::D", "F::B", "S::a", "G::A", "E:A", "E::A::B", "E::E::A", "::E::A", "E::A::", "E:::A", "E: :A", "E ::A", "E::A ", "EA", "E.A", "A::E"} {
			if e, v, ok := Variant(it, name); ok || e != 0 || v != 0 {
				t.Error(name, e, v)
			}
		}
	}
}

// 14.3: of names that stand twice the first.
func TestFindFirst(t *testing.T) {
	it := api.Items{
		Structs: []api.Struct{{Name: "T"}, {Name: "S", Fields: []api.Field{{Name: "b", Type: "1"}, {Name: "a", Type: "2"}, {Name: "a", Type: "3"}}}, {Name: "S", Fields: []api.Field{{Name: "a", Type: "4"}, {Name: "c", Type: "5"}}}},
		Enums:   []api.Enum{{Name: "S", Variants: []api.Field{{Name: "X"}}}, {Name: "E", Variants: []api.Field{{Name: "B"}, {Name: "A", Type: "1"}, {Name: "A", Type: "2"}}}, {Name: "E", Variants: []api.Field{{Name: "A", Type: "3"}, {Name: "C"}}}},
		Fns:     []api.Fn{{Name: "g"}, {Name: "f", Node: 3}, {Name: "f", Node: -4}},
	}
	if s, ok := Struct(it, "S"); !ok || len(s.Fields) != 3 {
		t.Error(s, ok)
	}
	if e, ok := Enum(it, "E"); !ok || len(e.Variants) != 3 {
		t.Error(e, ok)
	}
	if f, ok := Fn(it, "f"); f != 1 || !ok {
		t.Error(f, ok)
	}
	if k, s, ok := Field(it, "S", "a"); k != 1 || s != "2" || !ok {
		t.Error(k, s, ok)
	}
	if k, s, ok := Field(it, "S", "c"); k != 0 || s != "" || ok { // the struct of that name has none
		t.Error(k, s, ok)
	}
	if e, v, ok := Variant(it, "E::A"); e != 1 || v != 1 || !ok {
		t.Error(e, v, ok)
	}
	if e, v, ok := Variant(it, "S::X"); e != 0 || v != 0 || !ok {
		t.Error(e, v, ok)
	}
	empty := api.Items{Structs: []api.Struct{{Fields: []api.Field{{Type: "i64"}}}}, Enums: []api.Enum{{}, {Name: "x", Variants: []api.Field{{}}}}, Fns: []api.Fn{{}}}
	if k, s, ok := Field(empty, "", ""); k != 0 || s != "i64" || !ok {
		t.Error(k, s, ok)
	}
	if f, ok := Fn(empty, ""); f != 0 || !ok {
		t.Error(f, ok)
	}
	if e, v, ok := Variant(empty, "x::"); e != 1 || v != 0 || !ok {
		t.Error(e, v, ok)
	}
	if _, _, ok := Variant(empty, "x"); ok {
		t.Error("a variant without ::")
	}
	if e, v, ok := Variant(it, "E::C"); e != 2 || v != 1 || !ok { // the first enum E has no C
		t.Error(e, v, ok)
	}
}

// 14.3: items may be any, so names with : in them too: a name fits wherever its :: may stand.
func TestVariantOfAnyNames(t *testing.T) {
	enum := func(name string, variants ...string) api.Enum {
		e := api.Enum{Name: name}
		for _, v := range variants {
			e.Variants = append(e.Variants, api.Field{Name: v})
		}
		return e
	}
	for _, x := range []struct {
		enums []api.Enum
		name  string
		want  [2]int
		there bool
	}{
		{[]api.Enum{enum("A::B", "C")}, "A::B::C", [2]int{0, 0}, true},
		{[]api.Enum{enum("A", "C", "B::C")}, "A::B::C", [2]int{0, 1}, true},
		{[]api.Enum{enum("A:", "B", "C")}, "A:::C", [2]int{0, 1}, true},
		{[]api.Enum{enum("A", "B", ":C")}, "A:::C", [2]int{0, 1}, true},
		{[]api.Enum{enum("A", "B", "C"), enum("A::B", "A", "C"), enum("A", "B::C")}, "A::B::C", [2]int{1, 1}, true},
		{[]api.Enum{enum("", "A"), enum("A", "B::C"), enum("A::B", "A", "C")}, "A::B::C", [2]int{1, 0}, true},
		{[]api.Enum{enum("", "", "::"), enum("::", "")}, "::::", [2]int{0, 1}, true},
		{[]api.Enum{enum("", "x"), enum("::", "")}, "::::", [2]int{1, 0}, true},
		{[]api.Enum{enum("::", "::")}, "::::::", [2]int{0, 0}, true},
		{[]api.Enum{enum("", "")}, "::", [2]int{0, 0}, true},
		{[]api.Enum{enum("A::B", "C"), enum("A", "B::"), enum("A:", ":B"), enum("A::")}, "A::B", [2]int{}, false},
		{[]api.Enum{enum("A::B", "C", "A::B::C"), enum("", "B::C", "::A::B::C")}, "A::B::D", [2]int{}, false},
		{[]api.Enum{enum("A::B", "C"), enum("", "C")}, "A:B::C", [2]int{}, false},
		{[]api.Enum{enum("", ""), enum(":", ":")}, ":", [2]int{}, false},
	} {
		if e, v, ok := Variant(api.Items{Enums: x.enums}, x.name); [2]int{e, v} != x.want || ok != x.there {
			t.Error(x.enums, x.name, e, v, ok)
		}
	}
}

// 14.3: Variant of names of few letters is the first pair of an enum and its variant that the name is made of.
func TestVariantIsThatOfTheFirstPair(t *testing.T) {
	r := rand.New(rand.NewSource(24))
	text := func(letters string, most int) string {
		b := make([]byte, r.Intn(most+1))
		for k := range b {
			b[k] = letters[r.Intn(len(letters))]
		}
		return string(b)
	}
	there := 0
	for range 20000 {
		var it api.Items
		for range r.Intn(5) {
			e := api.Enum{Name: text("a:::", 3)}
			for range r.Intn(5) {
				e.Variants = append(e.Variants, api.Field{Name: text("a:::", 3)})
			}
			it.Enums = append(it.Enums, e)
		}
		name, want, fits := text("a:::", 7), [2]int{}, false
		for k, e := range slices.Backward(it.Enums) {
			for v, f := range slices.Backward(e.Variants) {
				if e.Name+"::"+f.Name == name {
					want, fits = [2]int{k, v}, true
				}
			}
		}
		if e, v, ok := Variant(it, name); [2]int{e, v} != want || ok != fits {
			t.Fatal(it.Enums, name, e, v, ok)
		}
		if fits {
			there++
		}
	}
	if there < 500 {
		t.Error("too few names fit", there)
	}
}

// 14.4: items that differ in one field alone; nil and empty lists.
func TestSame(t *testing.T) {
	if !Same(sample(), sample()) || !Same(api.Items{}, api.Items{}) || Same(sample(), api.Items{}) || Same(api.Items{}, sample()) {
		t.Error("Same")
	}
	for k, change := range []func(it *api.Items){
		func(it *api.Items) { it.Structs[0].Name = "X" }, func(it *api.Items) { it.Structs[0].Fields[1].Name = "X" }, func(it *api.Items) { it.Structs[0].Fields[1].Type = "X" }, func(it *api.Items) { it.Structs[0].Fields = it.Structs[0].Fields[:1] }, func(it *api.Items) { it.Structs[1].Fields = make([]api.Field, 1) },
		func(it *api.Items) { it.Structs = it.Structs[:1] }, func(it *api.Items) { it.Structs = nil }, func(it *api.Items) { it.Structs = append(it.Structs, api.Struct{}) }, func(it *api.Items) { slices.Reverse(it.Structs) },
		func(it *api.Items) { it.Enums[1].Name = "X" }, func(it *api.Items) { it.Enums[0].Variants[2].Name = "X" }, func(it *api.Items) { it.Enums[0].Variants[0].Type = "X" }, func(it *api.Items) { it.Enums[0].Variants = nil }, func(it *api.Items) { it.Enums = it.Enums[1:] }, func(it *api.Items) { slices.Reverse(it.Enums[0].Variants) },
		func(it *api.Items) { it.Fns[2].Name = "X" }, func(it *api.Items) { it.Fns[0].Params[1].Name = "X" }, func(it *api.Items) { it.Fns[0].Params[1].Type = "X" }, func(it *api.Items) { it.Fns[0].Params = it.Fns[0].Params[:2] }, func(it *api.Items) { it.Fns[0].Muts[0] = true }, func(it *api.Items) { it.Fns[0].Muts = nil },
		func(it *api.Items) { it.Fns[1].Muts = make([]bool, 1) }, func(it *api.Items) { it.Fns[1].Ret = "" }, func(it *api.Items) { it.Fns[1].Node = 6 }, func(it *api.Items) { it.Fns = it.Fns[:2] }, func(it *api.Items) { it.Fns = append(it.Fns, api.Fn{}) }, func(it *api.Items) { it.Fns[0], it.Fns[1] = it.Fns[1], it.Fns[0] },
	} {
		a, b := sample(), sample()
		change(&b)
		if Same(a, b) || Same(b, a) || !Same(b, b) {
			t.Errorf("change %d", k)
		}
	}
	a := api.Items{Structs: []api.Struct{{}}, Enums: []api.Enum{{}}, Fns: []api.Fn{{}}}
	b := api.Items{Structs: []api.Struct{{Fields: []api.Field{}}}, Enums: []api.Enum{{Variants: []api.Field{}}}, Fns: []api.Fn{{Params: []api.Field{}, Muts: []bool{}}}}
	if !Same(a, b) || !Same(b, a) || !Same(api.Items{}, api.Items{Structs: []api.Struct{}, Enums: []api.Enum{}, Fns: []api.Fn{}}) {
		t.Error("nil and empty lists")
	}
}

// 14.5: the functions' bodies say nothing.
func TestBodies(t *testing.T) {
	form := "struct S { a: i64 } fn f(a: &S) -> i64 #1 enum E { A, B(S) } fn main() #2"
	bodies := []string{"{ }", "{ 1 }", "{ let x: Nothing = y; Nothing { a: 1 }; E::C(nothing()) }", "{ let f: Box<& &i64> = 1; main(1, 2); return; }", "{ { { { } } } break; continue; match x { Nothing::X(_) => 1, } }"}
	want, _ := withoutNodes(mustOf(t, strings.NewReplacer("#1", "{ }", "#2", "{ }").Replace(form)))
	for _, a := range bodies {
		for _, b := range bodies {
			it, x := mustOf(t, strings.NewReplacer("#1", a, "#2", b).Replace(form))
			if plain, named := withoutNodes(it, x); !named || !Same(plain, want) || Check(it) != api.OK {
				t.Error(a, b, it)
			}
			source := strings.NewReplacer("#1", a, "#2", b).Replace("fn f(a: S) #1 fn g() #2")
			if it, d := Of(treeOf(t, source)); d != (api.Diag{Code: api.ErrUnknown, From: 8, To: 9}) || !Same(it, api.Items{}) {
				t.Error(source, d)
			}
		}
	}
}

func mustOf(t *testing.T, source string) (api.Items, api.Tree) {
	t.Helper()
	x := treeOf(t, source)
	it, d := Of(x)
	if d.Code != api.OK {
		t.Fatal(source, d)
	}
	return it, x
}

// 14.6: an item more at the end, of another name, leaves all others as they are.
func TestOneMore(t *testing.T) {
	r := rand.New(rand.NewSource(146))
	g := &guesser{r: r, odds: 100000}
	n := 0
	for range 2000 {
		defs := g.defs(r.Intn(6), r.Intn(3), 3)
		w := &writer{}
		for k := range defs {
			w.item(&defs[k])
		}
		it, d := Of(treeOf(t, w.s.String()))
		if d.Code != api.OK {
			continue
		}
		n++
		for _, more := range []string{"struct More { a: i64 }", "enum More { A, B(Box<More>) }", "fn more(a: bool) -> i64 { 1 }"} {
			all, _ := mustOf(t, w.s.String()+more)
			same := all
			switch more[0] {
			case 's':
				same.Structs = all.Structs[:len(it.Structs)]
			case 'e':
				same.Enums = all.Enums[:len(it.Enums)]
			case 'f':
				same.Fns = all.Fns[:len(it.Fns)]
			}
			if !Same(same, it) || len(all.Structs)+len(all.Enums)+len(all.Fns) != len(it.Structs)+len(it.Enums)+len(it.Fns)+1 {
				t.Fatal(w.s.String(), all, it)
			}
		}
	}
	if n < 500 {
		t.Error(n)
	}
}

// spoil writes over a list of fields, spare room too.
func spoil(l []api.Field) {
	l = l[:cap(l)]
	for k := range l {
		l[k] = api.Field{Name: "spoilt", Type: "spoilt"}
	}
}

// R3: answers share no memory with arguments, with each other, nor their lists among themselves; arguments are not changed.
func TestMemory(t *testing.T) {
	source := "struct S { a: i64, b: bool, c: () } struct T { a: S } enum E { A, B(S), C } enum F { A } fn f(a: i64, mut b: bool, c: &S) { } fn g(a: i64) { } fn main() { }"
	x := treeOf(t, source)
	kept, _ := tree.Sub(x, len(x.Nodes)-1)
	it, _ := Of(x)
	again, _ := Of(x)
	want, _ := Of(kept)
	if !tree.Same(x, kept) || !Same(it, want) {
		t.Error("the tree was changed")
	}
	spoil(it.Structs[0].Fields)
	spoil(it.Enums[0].Variants)
	spoil(it.Fns[0].Params)
	clear(it.Fns[0].Muts[:cap(it.Fns[0].Muts)])
	if !slices.Equal(it.Structs[1].Fields, want.Structs[1].Fields) || !slices.Equal(it.Enums[1].Variants, want.Enums[1].Variants) || !slices.Equal(it.Fns[1].Params, want.Fns[1].Params) || !tree.Same(x, kept) || !Same(again, want) {
		t.Error("lists share memory")
	}
	it = sample()
	it.Structs[0].Fields = append(make([]api.Field, 0, 8), it.Structs[0].Fields...)
	it.Enums[0].Variants = append(make([]api.Field, 0, 8), it.Enums[0].Variants...)
	s, _ := Struct(it, "S")
	e, _ := Enum(it, "E")
	other, _ := Struct(it, "S")
	spoil(s.Fields)
	spoil(e.Variants)
	Check(it)
	Field(it, "S", "a")
	Variant(it, "E::A")
	if !Same(it, sample()) || !slices.Equal(other.Fields, sample().Structs[0].Fields) {
		t.Error("the items are shared")
	}
	for _, l := range [][]api.Field{it.Structs[0].Fields, it.Enums[0].Variants} {
		for _, f := range l[len(l):cap(l)] {
			if f != (api.Field{}) {
				t.Error("spare room is shared")
			}
		}
	}
}
