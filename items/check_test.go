package items

import (
	"math"
	"math/rand"
	"slices"
	"strconv"
	"strings"
	"testing"

	"patina/api"
	"patina/parse"
	"patina/tree"
)

// sample are right items with something of each kind.
func sample() api.Items {
	return api.Items{
		Structs: []api.Struct{{Name: "S", Fields: []api.Field{{Name: "a", Type: "i64"}, {Name: "b", Type: "Box<S>"}, {Name: "e", Type: "E"}}}, {Name: "T"}},
		Enums:   []api.Enum{{Name: "E", Variants: []api.Field{{Name: "A"}, {Name: "B", Type: "T"}, {Name: "C", Type: "Box<Box<E>>"}}}, {Name: "F", Variants: []api.Field{{Name: "A", Type: "()"}}}},
		Fns: []api.Fn{
			{Name: "f", Params: []api.Field{{Name: "x", Type: "&S"}, {Name: "y", Type: "&mut Box<i64>"}, {Name: "z", Type: "bool"}}, Muts: []bool{false, true, false}, Ret: "&mut E", Node: 0},
			{Name: "main", Ret: "()", Node: 7},
			{Name: "S", Params: []api.Field{{Name: "S", Type: "F"}}, Muts: []bool{true}, Ret: "Box<F>", Node: 8},
		},
	}
}

// sourceOf is a source with such items, if their names and types are such as stand in one.
func sourceOf(it api.Items) string {
	var s strings.Builder
	put := func(texts ...string) { s.WriteString(strings.Join(texts, " ") + " ") }
	typed := func(f api.Field) { put(f.Name, ":", strings.ReplaceAll(f.Type, "&&", "& &"), ",") }
	for _, x := range it.Structs {
		put("struct", x.Name, "{")
		for _, f := range x.Fields {
			typed(f)
		}
		put("}")
	}
	for _, x := range it.Enums {
		put("enum", x.Name, "{")
		for _, f := range x.Variants {
			put(f.Name)
			if f.Type != "" {
				put("(", f.Type, ")")
			}
			put(",")
		}
		put("}")
	}
	for _, x := range it.Fns {
		put("fn", x.Name, "(")
		for k, f := range x.Params {
			if x.Muts[k] {
				put("mut")
			}
			typed(f)
		}
		put(")", "->", x.Ret, "{ }")
	}
	return s.String()
}

// modelCheck tells whether items could be some tree's, by making a source of them and reading it.
func modelCheck(it api.Items) bool {
	last := -1
	for _, f := range it.Fns {
		if len(f.Muts) != len(f.Params) || f.Node <= last {
			return false
		}
		last = f.Node
	}
	x, d := parse.Parse(sourceOf(it))
	if d.Code != api.OK {
		return false
	}
	read, d := Of(x)
	if d.Code != api.OK {
		return false
	}
	a, _ := withoutNodes(read, x)
	b := it
	b.Fns = slices.Clone(it.Fns)
	for k := range b.Fns {
		b.Fns[k].Node = 0
	}
	return Same(a, b)
}

func wantItems(t *testing.T, it api.Items, want api.Errno) {
	t.Helper()
	if e := Check(it); e != want {
		t.Errorf("Check tells %v, not %v, of %.600q %v", e, want, sourceOfAny(it), it.Fns)
	}
}

func sourceOfAny(it api.Items) string {
	for _, f := range it.Fns {
		if len(f.Muts) < len(f.Params) {
			return "too few Muts"
		}
	}
	return sourceOf(it)
}

// 14.2: items that are right, and with each part wrong by itself.
func TestCheck(t *testing.T) {
	wantItems(t, sample(), api.OK)
	wantItems(t, api.Items{}, api.ErrItems)
	wantItems(t, api.Items{Fns: []api.Fn{{Name: "main", Ret: "()"}}}, api.OK)
	wantItems(t, api.Items{Structs: []api.Struct{}, Enums: []api.Enum{}, Fns: []api.Fn{{Name: "main", Ret: "()", Params: []api.Field{}, Muts: []bool{}, Node: math.MaxInt}}}, api.OK)
	for k, change := range []func(it *api.Items){
		func(it *api.Items) { it.Structs[0].Name = "" }, func(it *api.Items) { it.Structs[1].Name = "S" }, func(it *api.Items) { it.Structs[1].Name = "E" }, func(it *api.Items) { it.Enums[1].Name = "E" }, func(it *api.Items) { it.Enums[1].Name = "T" },
		func(it *api.Items) { it.Structs[1].Name = "fn" }, func(it *api.Items) { it.Structs[1].Name = "1" }, func(it *api.Items) { it.Enums[1].Name = "a b" }, func(it *api.Items) { it.Fns[0].Name = "_" }, func(it *api.Items) { it.Fns[0].Name = strings.Repeat("n", api.MaxName+1) },
		func(it *api.Items) { it.Fns[0].Name = "main" }, func(it *api.Items) { it.Fns[0].Name = "S" }, func(it *api.Items) { it.Fns[0].Name = "print" }, func(it *api.Items) { it.Fns[0].Name = "read" }, func(it *api.Items) { it.Fns[2].Name = "panic" }, func(it *api.Items) { it.Fns[0].Name = "" },
		func(it *api.Items) { it.Structs[0].Fields[1].Name = "a" }, func(it *api.Items) { it.Structs[0].Fields[1].Name = "" }, func(it *api.Items) { it.Structs[0].Fields[1].Name = "mut" }, func(it *api.Items) { it.Enums[0].Variants[2].Name = "A" }, func(it *api.Items) { it.Enums[0].Variants[2].Name = "é" }, func(it *api.Items) { it.Enums[0].Variants[0].Name = "E::A" },
		func(it *api.Items) { it.Fns[0].Params[2].Name = "x" }, func(it *api.Items) { it.Fns[0].Params[2].Name = "" }, func(it *api.Items) { it.Fns[2].Params[0].Name = "mut x" },
		func(it *api.Items) { it.Fns[0].Muts = nil }, func(it *api.Items) { it.Fns[0].Muts = []bool{true} }, func(it *api.Items) { it.Fns[0].Muts = make([]bool, 4) }, func(it *api.Items) { it.Fns[1].Muts = make([]bool, 1) }, func(it *api.Items) { it.Fns[2].Params = nil },
		func(it *api.Items) { it.Fns[0].Node = -1 }, func(it *api.Items) { it.Fns[0].Node = 7 }, func(it *api.Items) { it.Fns[0].Node = 8 }, func(it *api.Items) { it.Fns[2].Node = 7 }, func(it *api.Items) { it.Fns[2].Node = 0 }, func(it *api.Items) { it.Fns[1].Node = math.MinInt },
		func(it *api.Items) { it.Fns[1].Name = "Main" }, func(it *api.Items) { it.Fns = it.Fns[:1] }, func(it *api.Items) { it.Fns[1].Ret = "i64" }, func(it *api.Items) { it.Fns[1].Ret = "&()" }, func(it *api.Items) { it.Fns[1].Ret = "Box<()>" }, func(it *api.Items) { it.Fns[1].Ret = "" },
		func(it *api.Items) {
			it.Fns[1].Params, it.Fns[1].Muts = []api.Field{{Name: "a", Type: "i64"}}, []bool{false}
		},
		func(it *api.Items) { it.Structs[1].Fields = []api.Field{{Name: "s", Type: "S"}} }, func(it *api.Items) { it.Structs[1].Fields = []api.Field{{Name: "t", Type: "T"}} }, func(it *api.Items) { it.Structs[1].Fields = []api.Field{{Name: "e", Type: "E"}} }, func(it *api.Items) { it.Enums[0].Variants[2].Type = "E" },
		func(it *api.Items) { it.Enums[1].Variants = nil }, func(it *api.Items) { it.Enums[1].Variants = []api.Field{} },
	} {
		it := sample()
		change(&it)
		if Check(it) != api.ErrItems {
			t.Errorf("change %d", k)
		}
	}
}

// 14.2: types' texts at each place where one stands.
func TestCheckTypes(t *testing.T) {
	places := []func(it *api.Items) *string{
		func(it *api.Items) *string { return &it.Structs[0].Fields[0].Type }, func(it *api.Items) *string { return &it.Enums[0].Variants[1].Type }, func(it *api.Items) *string { return &it.Fns[0].Params[2].Type }, func(it *api.Items) *string { return &it.Fns[0].Ret },
	}
	for _, c := range []struct{ text, right string }{ // at which places it is right: f a field, v a payload, p a parameter and a result
		{"i64", "fvp"}, {"bool", "fvp"}, {"()", "fvp"}, {"T", "fvp"}, {"F", "fvp"}, {"Box<i64>", "fvp"}, {"Box<S>", "fvp"}, {"Box<E>", "fvp"}, {"Box<Box<Box<()>>>", "fvp"}, {"S", "p"}, {"E", "fp"},
		{"&i64", "p"}, {"&mut i64", "p"}, {"&S", "p"}, {"&mut E", "p"}, {"&Box<S>", "p"}, {"&mut Box<Box<()>>", "p"}, {"&()", "p"},
		{"", "v"}, {"!", ""}, {" ", ""}, {"i64 ", ""}, {" i64", ""}, {"I64", ""}, {"( )", ""}, {"(", ""}, {"U", ""}, {"main", ""}, {"f", ""}, {"A", ""}, {"a", ""}, {"1", ""}, {"u64", ""}, {"fn", ""}, {"mut", ""}, {"Box", ""},
		{"Box<>", ""}, {"Box<", ""}, {"Box<i64", ""}, {"Box< i64>", ""}, {"Box<i64 >", ""}, {"Box <i64>", ""}, {"Box<i64>>", ""}, {"Box<Box<i64>", ""}, {"Box<U>", ""}, {"Box<!>", ""}, {"box<i64>", ""}, {"<i64>", ""}, {"i64>", ""}, {"Box<i64>i64", ""}, {"Box<i64,i64>", ""},
		{"&", ""}, {"& i64", ""}, {"&mut", ""}, {"&mut ", ""}, {"&mut  i64", ""}, {"&muti64", ""}, {"& mut i64", ""}, {"mut i64", ""}, {"&&i64", ""}, {"&mut &i64", ""}, {"&&mut S", ""}, {"&Box<&i64>", ""}, {"Box<&i64>", ""}, {"Box<&mut S>", ""}, {"Box<Box<&i64>>", ""}, {"&U", ""}, {"&mut U", ""}, {"&!", ""}, {"&i64>", ""}, {"*i64", ""},
		{"S::a", ""}, {"E::A", ""}, {"S T", ""}, {"S\x00", ""}, {"i64, c : i64", ""}, {"Box<&", ""}, {"&Box<", ""}, {"&mut Box<>", ""}, {">", ""}, {"()()", ""}, {"i64bool", ""},
	} {
		for k, place := range places {
			it := sample()
			*place(&it) = c.text
			want := api.ErrItems
			if strings.ContainsRune(c.right, rune("fvpp"[k])) {
				want = api.OK
			}
			wantItems(t, it, want)
		}
	}
	it := sample() // & and a name that begins as mut does
	it.Structs[1].Name, it.Enums[0].Variants[1].Type, it.Fns[0].Ret = "mutT", "mutT", "&mutT"
	wantItems(t, it, api.OK)
	it.Structs[1].Name, it.Enums[0].Variants[1].Type, it.Fns[0].Ret = "Box<i64>", "", "Box<i64>" // a name that is none, though a type
	wantItems(t, it, api.ErrItems)
	for _, name := range []string{"i64", "()", "", "&S", "!"} {
		it := sample()
		it.Structs[1].Name, it.Enums[0].Variants[1].Type = name, name
		wantItems(t, it, api.ErrItems)
	}
}

func numbered(n int, name, text string) []api.Field {
	var l []api.Field
	for k := range n {
		l = append(l, api.Field{Name: name + strconv.Itoa(k), Type: text})
	}
	return l
}

// 14.2: counts, parts and words at their limits, and one beyond.
func TestCheckLimits(t *testing.T) {
	full := func(structs, enums, fns, fields, variants, params int) api.Items {
		it := api.Items{Fns: []api.Fn{{Name: "main", Ret: "()"}}}
		for k := range structs {
			it.Structs = append(it.Structs, api.Struct{Name: "S" + strconv.Itoa(k), Fields: numbered(fields, "a", "i64")})
		}
		for k := range enums {
			it.Enums = append(it.Enums, api.Enum{Name: "E" + strconv.Itoa(k), Variants: numbered(variants, "A", "S0")})
		}
		for k := range fns - 1 {
			it.Fns = append(it.Fns, api.Fn{Name: "f" + strconv.Itoa(k), Params: numbered(params, "x", "&S0"), Muts: make([]bool, params), Ret: "i64", Node: k + 1})
		}
		return it
	}
	const most, fields, params = api.MaxItems, api.MaxFields, api.MaxParams
	for _, c := range []struct {
		it   api.Items
		want api.Errno
	}{
		{full(most, most, most, fields, fields, params), api.OK}, {full(1, 1, 1, 0, 1, 0), api.OK},
		{full(most+1, 1, 1, 0, 1, 0), api.ErrItems}, {full(1, most+1, 1, 0, 1, 0), api.ErrItems}, {full(1, 1, most+1, 0, 1, 0), api.ErrItems},
		{full(1, 1, 2, fields+1, 1, 0), api.ErrItems}, {full(1, 1, 2, 0, fields+1, 0), api.ErrItems}, {full(1, 1, 2, 0, 1, params+1), api.ErrItems}, {full(1, 1, 2, 0, 0, 0), api.ErrItems},
	} {
		if e := Check(c.it); e != c.want {
			t.Error(e, c.want, len(c.it.Structs), len(c.it.Enums), len(c.it.Fns))
		}
	}
	words := full(1, 0, 1, 16, 0, 0)
	for _, c := range []struct {
		s    api.Struct
		want api.Errno
	}{
		{api.Struct{Name: "T", Fields: numbered(4, "a", "S0")}, api.OK}, {api.Struct{Name: "T", Fields: append(numbered(4, "a", "S0"), api.Field{Name: "b", Type: "()"})}, api.OK},
		{api.Struct{Name: "T", Fields: append(numbered(4, "a", "S0"), api.Field{Name: "b", Type: "bool"})}, api.ErrItems}, {api.Struct{Name: "T", Fields: numbered(5, "a", "S0")}, api.ErrItems}, {api.Struct{Name: "T", Fields: numbered(16, "a", "Box<S0>")}, api.OK},
	} {
		it := words
		it.Structs = append(slices.Clone(it.Structs), c.s)
		wantItems(t, it, c.want)
	}
	for n, want := range map[int]api.Errno{3: api.OK, 4: api.ErrItems} { // 1 + n * (1 + 15 * 17) parts
		it := full(0, 0, 1, 0, 0, 0)
		it.Structs = []api.Struct{{Name: "C", Fields: numbered(n, "a", "B")}, {Name: "B", Fields: numbered(15, "a", "A")}, {Name: "A", Fields: numbered(16, "a", "()")}}
		wantItems(t, it, want)
	}
}

// 14.2, P1: items of great types, and of texts that go on and on.
func TestCheckOfGreatThings(t *testing.T) {
	it := sample()
	const deep = 1 << 16
	for _, c := range []struct {
		text string
		want api.Errno
	}{
		{strings.Repeat("Box<", 90) + "i64" + strings.Repeat(">", 90), api.OK}, {"&mut " + strings.Repeat("Box<", deep) + "S" + strings.Repeat(">", deep), api.OK}, {strings.Repeat("Box<", deep) + "i64" + strings.Repeat(">", deep-1), api.ErrItems}, {strings.Repeat("Box<", deep), api.ErrItems},
		{strings.Repeat("&", deep) + "i64", api.ErrItems}, {strings.Repeat("&mut ", deep), api.ErrItems}, {strings.Repeat("i", 1<<20), api.ErrItems}, {strings.Repeat("Box<", deep) + "&i64" + strings.Repeat(">", deep), api.ErrItems},
	} {
		it.Fns[0].Ret = c.text
		if e := Check(it); e != c.want {
			t.Errorf("%.20q: %v", c.text, e)
		}
	}
	it = api.Items{Fns: []api.Fn{{Name: "main", Ret: "()"}}}
	for k := range 64 {
		it.Structs = append(it.Structs, api.Struct{Name: "S" + strconv.Itoa(k), Fields: numbered(16, "a", "S"+strconv.Itoa(k+1))})
	}
	it.Structs[63].Fields = nil
	wantItems(t, it, api.ErrItems)
	it.Structs[63].Fields = numbered(1, "a", "S0")
	wantItems(t, it, api.ErrItems)
	wantItems(t, api.Items{Structs: make([]api.Struct, 1<<18), Enums: make([]api.Enum, 1<<18), Fns: make([]api.Fn, 1<<18)}, api.ErrItems)
}

// 14.2: items that were made, and with anything changed, are right just if a source says them.
func TestChangedItems(t *testing.T) {
	r := rand.New(rand.NewSource(142))
	right, wrong := 0, 0
	texts := []string{"", "a", "b", "A", "S", "T", "E", "F", "main", "f", "print", "i64", "bool", "()", "&S", "&mut T", "Box<S>", "Box<T>", "&Box<E>", "Box<&i64>", "&&S", "Box<Nothing>", "&mut", "fn", "_", "x"}
	pick := func() string { return texts[r.Intn(len(texts))] }
	for range 20000 {
		it := sample()
		for range 1 + r.Intn(3) {
			s, e, f := &it.Structs[r.Intn(2)], &it.Enums[r.Intn(2)], &it.Fns[r.Intn(3)]
			switch r.Intn(9) {
			case 0:
				s.Name = pick()
			case 1:
				e.Name = pick()
			case 2:
				f.Name = pick()
			case 3:
				s.Fields = append(s.Fields, api.Field{Name: pick(), Type: pick()})
			case 4:
				e.Variants = append(e.Variants, api.Field{Name: pick(), Type: pick()})
			case 5:
				f.Params, f.Muts = append(f.Params, api.Field{Name: pick(), Type: pick()}), append(f.Muts, r.Intn(2) == 0)
			case 6:
				f.Ret = pick()
			case 7:
				f.Node = r.Intn(12) - 1
			case 8:
				e.Variants[r.Intn(max(1, len(e.Variants)))].Type = pick()
			}
		}
		want := api.ErrItems
		if modelCheck(it) {
			want = api.OK
			right++
		} else {
			wrong++
		}
		wantItems(t, it, want)
	}
	if right < 1000 || wrong < 1000 {
		t.Error(right, wrong)
	}
}

// P1: trees that are not right, and trees of anything.
func TestTreesThatAreNotRight(t *testing.T) {
	for _, x := range []api.Tree{
		{}, {Nodes: []api.Node{}}, {Nodes: []api.Node{{Kind: api.KCrate}, {Kind: api.KCrate}}}, {Nodes: []api.Node{{Kind: api.KFn, Name: "main", From: 3, To: 5}}}, {Nodes: []api.Node{{Kind: api.KCrate, Kids: []int{0}, From: 2, To: 4}}},
		{Nodes: []api.Node{{Kind: api.KStruct, Name: "S", From: 1, To: 2}, {Kind: api.KStruct, Name: "S"}, {Kind: api.KCrate, Kids: []int{0}}}},
	} {
		if it, d := Of(x); d != (api.Diag{Code: api.ErrTree}) || !Same(it, api.Items{}) {
			t.Error(it, d)
		}
	}
	r := rand.New(rand.NewSource(1))
	source := treeOf(t, "struct S { a: T, b: Box<S> } enum T { A, B(i64) } fn f(a: &S, mut b: T) -> &mut S { a } fn main() { }")
	taken := 0
	for range 20000 {
		x, _ := tree.Sub(source, len(source.Nodes)-1)
		for range 1 + r.Intn(2) {
			n := &x.Nodes[r.Intn(len(x.Nodes))]
			switch r.Intn(4) {
			case 0:
				n.Kind = r.Intn(56)
			case 1:
				n.Name = []string{"", "S", "T", "a", "main", "print"}[r.Intn(6)]
			case 2:
				n.Num = int64(r.Intn(4) - 1)
			case 3:
				n.Kids = append(n.Kids, r.Intn(len(x.Nodes)+1)-1)
			}
		}
		it, d := Of(x)
		if (d.Code == api.ErrTree) != (tree.Check(x) != api.OK) || d.Code == api.OK && Check(it) != api.OK || d.Code != api.OK && !Same(it, api.Items{}) {
			t.Fatal(x, d)
		}
		if d.Code == api.OK {
			taken++
		}
	}
	if taken < 100 {
		t.Error(taken)
	}
}

// 14.5: a tree's order is that of its nodes, so that the functions' Nodes rise, however the crate names them; a struct's fields stand as it names them.
func TestOrderOfNodes(t *testing.T) {
	x := treeOf(t, "struct S { a: i64, b: bool } fn f(x: i64, mut y: bool) { } struct T { } fn main() { }")
	want, d := Of(x)
	if d.Code != api.OK {
		t.Fatal(d)
	}
	last := len(x.Nodes) - 1
	slices.Reverse(x.Nodes[last].Kids)
	it, d := Of(x)
	if d.Code != api.OK || !Same(it, want) || Check(it) != api.OK {
		t.Error(it, d)
	}
	for k := range x.Nodes {
		if x.Nodes[k].Kind == api.KStruct {
			slices.Reverse(x.Nodes[k].Kids)
		}
	}
	it, d = Of(x)
	slices.Reverse(want.Structs[0].Fields)
	if d.Code != api.OK || !Same(it, want) || Check(it) != api.OK {
		t.Error(it, d)
	}
}
