package types

import (
	"math"
	"slices"
	"strconv"
	"strings"
	"testing"

	"patina/api"
	"patina/items"
)

// field is a field, a variant or a parameter.
func field(name, text string) api.Field { return api.Field{Name: name, Type: text} }

// sample are items of each kind: those that own by way of others, by way of themselves, and those that own nothing.
func sample() api.Items {
	return api.Items{
		Structs: []api.Struct{
			{Name: "S", Fields: []api.Field{field("a", "i64"), field("b", "Box<S>")}},
			{Name: "None"},
			{Name: "Plain", Fields: []api.Field{field("u", "()"), field("x", "i64"), field("n", "None"), field("y", "bool")}},
			{Name: "Outer", Fields: []api.Field{field("p", "Plain"), field("e", "Maybe"), field("z", "i64")}},
			{Name: "Units", Fields: []api.Field{field("a", "()"), field("b", "None")}},
			{Name: "Boxed", Fields: []api.Field{field("i640", "i64")}},
		},
		Enums: []api.Enum{
			{Name: "E", Variants: []api.Field{field("A", ""), field("B", "S")}},
			{Name: "Maybe", Variants: []api.Field{field("No", ""), field("Yes", "E"), field("Also", "i64")}},
			{Name: "Bare", Variants: []api.Field{field("A", ""), field("B", "")}},
			{Name: "One", Variants: []api.Field{field("V", "()")}},
			{Name: "Mixed", Variants: []api.Field{field("A", "Plain"), field("B", "bool"), field("C", ""), field("D", "None")}},
			{Name: "List", Variants: []api.Field{field("End", ""), field("More", "Box<List>")}},
		},
		Fns: []api.Fn{{Name: "f", Params: []api.Field{field("x", "&S")}, Muts: []bool{false}, Ret: "&mut E", Node: 3}, {Name: "main", Ret: "()", Node: 7}},
	}
}

func TestSampleIsRight(t *testing.T) {
	if e := items.Check(sample()); e != api.OK {
		t.Fatal(e)
	}
}

// 15.1: each form of a type, with what is told of it.
func TestForms(t *testing.T) {
	it := sample()
	for _, c := range []struct {
		s            string
		words        int
		copied, owns bool
	}{
		{"i64", 1, true, false}, {"bool", 1, true, false}, {"()", 0, true, false},
		{"&i64", 1, true, false}, {"&()", 1, true, false}, {"&S", 1, true, false}, {"&Box<S>", 1, true, false}, {"&E", 1, true, false}, {"&None", 1, true, false},
		{"&mut i64", 1, false, false}, {"&mut ()", 1, false, false}, {"&mut S", 1, false, false}, {"&mut Box<Box<bool>>", 1, false, false}, {"&mut List", 1, false, false},
		{"Box<i64>", 1, false, true}, {"Box<()>", 1, false, true}, {"Box<None>", 1, false, true}, {"Box<Box<()>>", 1, false, true}, {"Box<Outer>", 1, false, true},
		{"S", 2, false, true}, {"None", 0, false, false}, {"Plain", 2, false, false}, {"Outer", 7, false, true}, {"Units", 0, false, false}, {"Boxed", 1, false, false},
		{"E", 3, false, true}, {"Maybe", 4, false, true}, {"Bare", 1, false, false}, {"One", 1, false, false}, {"Mixed", 3, false, false}, {"List", 2, false, true},
	} {
		n, e := Words(it, c.s)
		k, f := Copy(it, c.s)
		o, g := Owns(it, c.s)
		if n != c.words || k != c.copied || o != c.owns || e != api.OK || f != api.OK || g != api.OK || !Right(it, c.s) {
			t.Errorf("%s: %d %v %v, %v %v %v, %v", c.s, n, k, o, e, f, g, Right(it, c.s))
		}
	}
}

// wrongTexts are texts that are near types, and are none of sample's.
func wrongTexts() []string {
	return []string{
		"", " ", "!", "_", "T", "s", "main", "f", "i32", "I64", "i64 ", " i64", "bool ", "Bool", "(", ")", "( )", "() ", "(())", "(i64)", "S ", " S", "SS", "S\n", "S::a", "E::A", "E::B", "S.a",
		"&", "&&", "&&S", "& S", "&S ", "& mut S", "&mut", "&mut ", "&mutS", "&mut  S", "&mut S ", "&mut\tS", "&mut mut S", "&mut &S", "&&mut S", "&mut &mut S", "&T", "&mut T", "&!", "&mut !", "& ", "&()()", "mut S",
		"Box", "Box<", "Box<>", "Box>", "Box<S", "BoxS>", "Box <S>", "Box< S>", "Box<S >", "Box<S> ", " Box<S>", "Box<S>>", "Box<Box<S>", "Box<<S>>", "Box<T>", "Box<!>", "box<S>", "Box<S,S>", "Box<S>S", "Box(S)",
		"Box<&S>", "Box<&mut S>", "Box<Box<&S>>", "Box<& S>", "Box<&>", "&Box<&S>", "&mut Box<&mut S>", "&Box<>", "&Box<S", "&Box<S>>", "Box<>>", "Box<> >", "&Box<T>", "&Box", "Box<Box>", "Box<Box<>>",
		"\x00", "\xff", "S\x00", "é", strings.Repeat("S", 65), strings.Repeat("&", 1000), strings.Repeat("Box<", 1000), strings.Repeat("Box<", 1000) + "S" + strings.Repeat(">", 999), strings.Repeat("Box<", 1000) + "S" + strings.Repeat(">", 1001),
	}
}

// wantErrors holds all calls that take items and a type to one error, with zeros beside it.
func wantErrors(t *testing.T, it api.Items, s string, want api.Errno) {
	t.Helper()
	if Right(it, s) {
		t.Errorf("Right of %q", s)
	}
	if k, e := Copy(it, s); k || e != want {
		t.Errorf("Copy of %q: %v, %v", s, k, e)
	}
	if k, e := Owns(it, s); k || e != want {
		t.Errorf("Owns of %q: %v, %v", s, k, e)
	}
	if n, e := Words(it, s); n != 0 || e != want {
		t.Errorf("Words of %q: %v, %v", s, n, e)
	}
	for _, f := range []int{0, 1, -1, 99, math.MinInt, math.MaxInt} {
		if n, e := Offset(it, s, f); n != 0 || e != want {
			t.Errorf("Offset of %q, %d: %v, %v", s, f, n, e)
		}
	}
	for _, path := range [][]int{nil, {}, {0}, {-1}, {-2}, {99}, make([]int, api.MaxDeep), make([]int, api.MaxDeep+1)} {
		if p, e := At(it, s, path); p != "" || e != want {
			t.Errorf("At of %q, %d steps: %q, %v", s, len(path), p, e)
		}
	}
}

// 15.1, R1: texts that are no types, ahead of all else.
func TestNoTypes(t *testing.T) {
	for _, s := range wrongTexts() {
		wantErrors(t, sample(), s, api.ErrArg)
	}
}

// wrongItems are items that are not right, each for a reason of its own.
func wrongItems() []api.Items {
	var l []api.Items
	add := func(change func(it *api.Items)) {
		it := sample()
		change(&it)
		l = append(l, it)
	}
	add(func(it *api.Items) { *it = api.Items{} })
	add(func(it *api.Items) { it.Fns = it.Fns[:1] })
	add(func(it *api.Items) { it.Fns[0].Muts = nil })
	add(func(it *api.Items) { it.Fns[0].Node = -1 })
	add(func(it *api.Items) { it.Fns[1].Node = 3 })
	add(func(it *api.Items) { it.Fns[1].Ret = "i64" })
	add(func(it *api.Items) { it.Fns[0].Ret = "Box<&S>" })
	add(func(it *api.Items) { it.Structs[1].Name = "S" })
	add(func(it *api.Items) { it.Structs[1].Name = "E" })
	add(func(it *api.Items) { it.Structs[0].Name = "T" })
	add(func(it *api.Items) { it.Structs[1].Name = "a b" })
	add(func(it *api.Items) { it.Structs[0].Fields[0].Type = "S" })
	add(func(it *api.Items) { it.Structs[0].Fields[0].Type = "&i64" })
	add(func(it *api.Items) { it.Structs[0].Fields[0].Type = "" })
	add(func(it *api.Items) { it.Structs[0].Fields[1].Name = "a" })
	add(func(it *api.Items) { it.Enums[2].Variants = nil })
	add(func(it *api.Items) { it.Enums[0].Variants[0].Type = "T" })
	return l
}

// 15.1, 15.3, R1: items that are not right, ahead of a text that is no type, and of all else.
func TestWrongItems(t *testing.T) {
	for _, it := range wrongItems() {
		for _, s := range []string{"i64", "()", "S", "E", "&S", "&mut S", "Box<S>", "None", "", "!", "T", "&&S"} {
			wantErrors(t, it, s, api.ErrItems)
		}
	}
}

// repeated are so many fields of one type.
func repeated(n int, text string) []api.Field {
	var l []api.Field
	for k := range n {
		l = append(l, field("f"+strconv.Itoa(k), text))
	}
	return l
}

// great are items with a struct and an enum of MaxWords words.
func great() api.Items {
	return api.Items{
		Structs: []api.Struct{
			{Name: "Last", Fields: []api.Field{field("a", "Less"), field("b", "i64"), field("c", "Box<All>")}},
			{Name: "All", Fields: repeated(16, "Four")},
			{Name: "Less", Fields: append(repeated(15, "Four"), field("a", "i64"))},
			{Name: "Four", Fields: repeated(4, "i64")},
		},
		Enums: []api.Enum{{Name: "Tagged", Variants: []api.Field{field("A", "Four"), field("B", "Last"), field("C", "")}}},
		Fns:   []api.Fn{{Name: "main", Ret: "()"}},
	}
}

// 15.1, 15.3: types of MaxWords words; of more the items are not right.
func TestMaxWords(t *testing.T) {
	it := great()
	for _, c := range []struct {
		s     string
		words int
	}{{"All", api.MaxWords}, {"Four", 4}, {"Less", 61}, {"Last", 63}, {"Tagged", api.MaxWords}, {"Box<All>", 1}, {"&All", 1}} {
		if n, e := Words(it, c.s); n != c.words || e != api.OK {
			t.Errorf("%s: %d, %v", c.s, n, e)
		}
	}
	if n, e := Offset(it, "All", 15); n != 60 || e != api.OK {
		t.Error(n, e)
	}
	if n, e := Offset(it, "Last", 2); n != 62 || e != api.OK {
		t.Error(n, e)
	}
	it.Structs[0].Fields = append(it.Structs[0].Fields, field("d", "bool")) // the enum has a word more than there may be
	wantErrors(t, it, "Last", api.ErrItems)
}

// 15.2: Inner, of any text.
func TestInner(t *testing.T) {
	for _, c := range []struct {
		s, inner string
		there    bool
	}{
		{"&mut S", "S", true}, {"&S", "S", true}, {"Box<S>", "S", true}, {"&Box<S>", "Box<S>", true}, {"Box<Box<S>>", "Box<S>", true}, {"Box<&S>", "&S", true}, {"&&S", "&S", true}, {"&&mut S", "&mut S", true}, {"&mut &S", "&S", true},
		{"&", "", true}, {"&mut", "mut", true}, {"&mut ", "", true}, {"&mut  ", " ", true}, {"&mutS", "mutS", true}, {"& mut S", " mut S", true}, {"& S", " S", true}, {"&&", "&", true}, {"&Box<", "Box<", true}, {"&!", "!", true}, {"&mut\tS", "mut\tS", true}, {"&Mut S", "Mut S", true},
		{"Box<>", "", true}, {"Box<> >", "> ", true}, {"Box<>>", ">", true}, {"Box< S >", " S ", true}, {"Box<S>S>", "S>S", true}, {"Box<Box<S>", "Box<S", true}, {"Box<<>", "<", true}, {"Box<!>", "!", true},
		{"", "", false}, {"!", "", false}, {"i64", "", false}, {"S", "", false}, {"()", "", false}, {">", "", false}, {"S>", "", false}, {"Box", "", false}, {"Box<", "", false}, {"Box>", "", false}, {"Box<S", "", false}, {"Box<S> ", "", false}, {" Box<S>", "", false}, {"box<S>", "", false}, {"BoxS>", "", false}, {"ox<S>", "", false}, {" &S", "", false}, {"mut S", "", false}, {"S&", "", false}, {"Boxx<S>", "", false},
	} {
		if s, ok := Inner(c.s); s != c.inner || ok != c.there {
			t.Errorf("Inner of %q: %q, %v", c.s, s, ok)
		}
	}
}

// 15.2: Ref, of any text.
func TestRef(t *testing.T) {
	for _, c := range []struct {
		s        string
		ref, mut bool
	}{
		{"&S", true, false}, {"&mut S", true, true}, {"&", true, false}, {"&mut", true, false}, {"&mut ", true, true}, {"&mut\tS", true, false}, {"&mutS", true, false}, {"& mut S", true, false}, {"&&mut S", true, false}, {"&mut &S", true, true},
		{"", false, false}, {"S", false, false}, {"!", false, false}, {"i64", false, false}, {" &S", false, false}, {"Box<&S>", false, false}, {"mut S", false, false}, {"S&", false, false}, {"Box<&mut S>", false, false},
	} {
		if ref, mut := Ref(c.s); ref != c.ref || mut != c.mut {
			t.Errorf("Ref of %q: %v, %v", c.s, ref, mut)
		}
	}
}

// 15.2: Fits, of any texts.
func TestFits(t *testing.T) {
	l := append(wrongTexts(), "i64", "bool", "()", "S", "&S", "&mut S", "Box<S>", "!!", "! ")
	for _, got := range l {
		for _, want := range l {
			fits := strings.Compare(got, want) == 0 || len(got) == 1 && got[0] == '!'
			if Fits(got, want) != fits {
				t.Errorf("Fits of %q, %q: %v", got, want, !fits)
			}
		}
	}
}

// 15.3: each field, and none.
func TestOffset(t *testing.T) {
	it := sample()
	for s, want := range map[string][]int{"S": {0, 1}, "Plain": {0, 0, 1, 1}, "Outer": {0, 2, 6}, "Units": {0, 0}, "Boxed": {0}, "None": nil} {
		for k, at := range want {
			if n, e := Offset(it, s, k); n != at || e != api.OK {
				t.Errorf("Offset of %s, %d: %d, %v", s, k, n, e)
			}
		}
		for _, k := range []int{-1, -2, len(want), len(want) + 1, 15, 16, math.MinInt, math.MaxInt} {
			if k >= 0 && k < len(want) {
				continue
			}
			if n, e := Offset(it, s, k); n != 0 || e != api.ErrNone {
				t.Errorf("Offset of %s, %d: %d, %v", s, k, n, e)
			}
		}
	}
	for _, s := range []string{"i64", "bool", "()", "E", "Bare", "&S", "&mut S", "Box<S>", "&Plain"} {
		for _, k := range []int{0, 1, -1} {
			if n, e := Offset(it, s, k); n != 0 || e != api.ErrNone {
				t.Errorf("Offset of %s, %d: %d, %v", s, k, n, e)
			}
		}
	}
}

// 15.3: paths, right and wrong.
func TestAt(t *testing.T) {
	it := sample()
	for _, c := range []struct {
		s    string
		path []int
		at   string // empty: ErrNone
	}{
		{"S", nil, "S"}, {"i64", []int{}, "i64"}, {"()", nil, "()"}, {"&mut S", nil, "&mut S"}, {"Box<E>", nil, "Box<E>"}, {"E", nil, "E"},
		{"S", []int{0}, "i64"}, {"S", []int{1}, "Box<S>"}, {"S", []int{1, -1}, "S"}, {"S", []int{1, -1, 0}, "i64"}, {"S", []int{1, -1, 1, -1, 1}, "Box<S>"},
		{"&S", []int{-1}, "S"}, {"&mut S", []int{-1, 1}, "Box<S>"}, {"Box<Box<E>>", []int{-1}, "Box<E>"}, {"Box<Box<E>>", []int{-1, -1, -3, 0}, "i64"}, {"&Box<i64>", []int{-1, -1}, "i64"}, {"&()", []int{-1}, "()"},
		{"E", []int{-3}, "S"}, {"E", []int{-3, 1}, "Box<S>"}, {"Maybe", []int{-3}, "E"}, {"Maybe", []int{-3, -3, 0}, "i64"}, {"Maybe", []int{-4}, "i64"}, {"One", []int{-2}, "()"}, {"Mixed", []int{-2, 2}, "None"}, {"Mixed", []int{-3}, "bool"}, {"Mixed", []int{-5}, "None"}, {"List", []int{-3, -1, -3}, "Box<List>"},
		{"Plain", []int{0}, "()"}, {"Plain", []int{3}, "bool"}, {"Outer", []int{1, -3, -3, 1, -1, 0}, "i64"},

		{"S", []int{2}, ""}, {"S", []int{-1}, ""}, {"S", []int{-2}, ""}, {"S", []int{-3}, ""}, {"S", []int{math.MaxInt}, ""}, {"S", []int{math.MinInt}, ""}, {"None", []int{0}, ""}, {"Plain", []int{4}, ""},
		{"E", []int{-2}, ""}, {"E", []int{-4}, ""}, {"E", []int{-5}, ""}, {"E", []int{-1}, ""}, {"E", []int{0}, ""}, {"E", []int{1}, ""}, {"E", []int{math.MaxInt}, ""}, {"E", []int{math.MinInt}, ""}, {"E", []int{math.MinInt + 1}, ""}, {"Mixed", []int{-4}, ""}, {"Bare", []int{-3}, ""},
		{"i64", []int{0}, ""}, {"i64", []int{-1}, ""}, {"bool", []int{-2}, ""}, {"()", []int{0}, ""}, {"()", []int{-1}, ""},
		{"&S", []int{0}, ""}, {"&mut S", []int{1}, ""}, {"Box<S>", []int{0}, ""}, {"&E", []int{-3}, ""}, {"Box<E>", []int{-3}, ""}, {"&i64", []int{-1, -1}, ""}, {"&mut i64", []int{-1, 0}, ""},
		{"S", []int{0, 0}, ""}, {"S", []int{1, 0}, ""}, {"S", []int{1, -1, 2}, ""}, {"S", []int{2, -1}, ""}, {"E", []int{-3, -1}, ""}, {"E", []int{-2, 0}, ""},
	} {
		want := api.OK
		if c.at == "" {
			want = api.ErrNone
		}
		if s, e := At(it, c.s, c.path); s != c.at || e != want {
			t.Errorf("At of %s, %v: %q, %v", c.s, c.path, s, e)
		}
	}
}

// 15.3: paths of MaxDeep numbers, and of one more, which is told ahead of a number that does not fit.
func TestLongPaths(t *testing.T) {
	it := sample()
	path := slices.Repeat([]int{1, -1}, api.MaxDeep)
	for n := range 2 * api.MaxDeep {
		s, e := At(it, "S", path[:n])
		switch {
		case n > api.MaxDeep:
			if s != "" || e != api.ErrLong {
				t.Fatal(n, s, e)
			}
		case s != []string{"S", "Box<S>"}[n%2] || e != api.OK:
			t.Fatal(n, s, e)
		}
	}
	deep := strings.Repeat("Box<", api.MaxDeep+1) + "i64" + strings.Repeat(">", api.MaxDeep+1)
	if s, e := At(it, deep, slices.Repeat([]int{-1}, api.MaxDeep)); s != "Box<i64>" || e != api.OK {
		t.Error(s, e)
	}
	for _, wrong := range []int{0, 50, api.MaxDeep - 1} {
		p := slices.Clone(path)
		p[wrong] = 9
		if s, e := At(it, "S", p[:api.MaxDeep]); s != "" || e != api.ErrNone {
			t.Error(s, e)
		}
		if s, e := At(it, "S", p[:api.MaxDeep+1]); s != "" || e != api.ErrLong {
			t.Error(s, e)
		}
	}
}

// 15.1, the bound: a type of many parts in one another.
func TestDeepTypes(t *testing.T) {
	const deep = 60000
	s := strings.Repeat("Box<", deep) + "S" + strings.Repeat(">", deep)
	if !Right(sample(), s) || !Right(sample(), "&mut "+s) || Right(sample(), s+">") || Right(sample(), s[1:]) || Right(sample(), "&&"+s) {
		t.Error("Right")
	}
	if n, e := Words(sample(), s); n != 1 || e != api.OK {
		t.Error(n, e)
	}
	if in, ok := Inner(s); !ok || in != s[4:len(s)-1] {
		t.Error("Inner")
	}
}
