package mir

import (
	"math"
	"slices"
	"strconv"
	"strings"
	"testing"

	"patina/api"
)

func wantCheck(t *testing.T, what string, m api.Mir, right bool) {
	t.Helper()
	want := api.OK
	if !right {
		want = api.ErrMir
	}
	if e := Check(m); e != want {
		t.Errorf("%s: %v, not %v", what, e, want)
	}
}

// row are lines that are right, or are not.
type row struct {
	lines string // with; between
	right bool
}

func wantRows(t *testing.T, with func(*testing.T, string) api.Mir, rows []row) {
	t.Helper()
	for _, r := range rows {
		for _, line := range strings.Split(r.lines, "; ") {
			m := with(t, line)
			wantCheck(t, line, m, r.right)
			if r.right != modelRight(m) {
				t.Errorf("%s: the model says otherwise", line)
			}
		}
	}
}

// 19.1, rule 1: items, and functions that are those of the items.
func TestFunctions(t *testing.T) {
	fresh := func() api.Mir { return one(t, "_1 = 1") }
	wantCheck(t, "as it is", fresh(), true)
	wantCheck(t, "nothing", api.Mir{}, false)
	for what, change := range map[string]func(m *api.Mir){
		"no main":                      func(m *api.Mir) { m.Items.Fns, m.Fns = m.Items.Fns[:2], m.Fns[:2] },
		"items of a type that is none": func(m *api.Mir) { m.Items.Structs[0].Fields[0].Type = "X" },
		"items that hold themselves":   func(m *api.Mir) { m.Items.Structs[1].Fields = []api.Field{{Name: "a", Type: "N"}} },
		"items with one name twice":    func(m *api.Mir) { m.Items.Structs[1].Name = "S" },
		"items with Nodes that fall":   func(m *api.Mir) { m.Items.Fns[0].Node = 1 << 20 },
		"a function more":              func(m *api.Mir) { m.Fns = append(m.Fns, m.Fns[2]) },
		"a function less":              func(m *api.Mir) { m.Fns = m.Fns[:2] },
		"no functions":                 func(m *api.Mir) { m.Fns = nil },
		"the items' functions less":    func(m *api.Mir) { m.Items.Fns = m.Items.Fns[1:] },
		"another order":                func(m *api.Mir) { m.Fns[0], m.Fns[1] = m.Fns[1], m.Fns[0] },
		"another name":                 func(m *api.Mir) { m.Fns[1].Name = "h" },
		"no name":                      func(m *api.Mir) { m.Fns[1].Name = "" },
		"a parameter less":             func(m *api.Mir) { m.Fns[0].Params = 2 },
		"a parameter more":             func(m *api.Mir) { m.Fns[0].Params = 4 },
		"a parameter that is no local": func(m *api.Mir) {
			m.Fns[0].Params, m.Fns[0].Locals = 4, append(m.Fns[0].Locals, api.Local{Type: "i64"})
		},
		"fewer than no parameters":       func(m *api.Mir) { m.Fns[1].Params = -1 },
		"a parameter of another type":    func(m *api.Mir) { m.Fns[0].Locals[1].Type = "bool" },
		"another one":                    func(m *api.Mir) { m.Fns[0].Locals[2].Type = "&mut S" },
		"the last one":                   func(m *api.Mir) { m.Items.Fns[0].Params[2].Type = "Box<i64>" },
		"a result of another type":       func(m *api.Mir) { m.Fns[1].Locals[0].Type = "i64" },
		"the items' result":              func(m *api.Mir) { m.Items.Fns[1].Ret = "Box<bool>" },
		"too few locals":                 func(m *api.Mir) { m.Fns[0].Locals, m.Fns[0].Blocks[0].Stmts = m.Fns[0].Locals[:3], nil },
		"no locals":                      func(m *api.Mir) { m.Fns[1].Locals, m.Fns[1].Blocks[0].Stmts = nil, nil },
		"a local of no type":             func(m *api.Mir) { m.Fns[1].Locals[1].Type = "" },
		"a local of !":                   func(m *api.Mir) { m.Fns[1].Locals[1].Type = "!" },
		"a local of an unknown type":     func(m *api.Mir) { m.Fns[1].Locals[1].Type = "Box<T>" },
		"a local of a reference within":  func(m *api.Mir) { m.Fns[1].Locals[1].Type = "Box<&S>" },
		"a reference to a reference":     func(m *api.Mir) { m.Fns[1].Locals[1].Type = "&&S" },
		"a local of a function's name":   func(m *api.Mir) { m.Fns[1].Locals[1].Type = "main" },
		"a name that is too long":        func(m *api.Mir) { m.Fns[1].Locals[1].Name = strings.Repeat("x", api.MaxName+1) },
		"a parameter's name is too long": func(m *api.Mir) { m.Fns[0].Locals[1].Name = strings.Repeat("x", api.MaxName+1) },
		"no block":                       func(m *api.Mir) { m.Fns[1].Blocks = nil },
		"no block, an empty list":        func(m *api.Mir) { m.Fns[1].Blocks = []api.MBlock{} },
		"a block without an end":         func(m *api.Mir) { m.Fns[1].Blocks[0].Term = api.MTerm{} },
		"a wrong first function":         func(m *api.Mir) { m.Fns[0].Blocks[0].Stmts[0].Kind = 0 },
		"a wrong last block":             func(m *api.Mir) { main(m).Blocks = append(main(m).Blocks, api.MBlock{}) },
		"a wrong last statement":         func(m *api.Mir) { main(m).Blocks[0].Stmts = append(main(m).Blocks[0].Stmts, api.MStmt{}) },
	} {
		m := fresh()
		change(&m)
		wantCheck(t, what, m, false)
		if modelRight(m) {
			t.Errorf("%s: the model says otherwise", what)
		}
	}
	for what, change := range map[string]func(m *api.Mir){
		"a name as long as may be":  func(m *api.Mir) { m.Fns[1].Locals[1].Name = strings.Repeat("x", api.MaxName) },
		"a name of any bytes":       func(m *api.Mir) { m.Fns[1].Locals[0].Name = "\xff\n \x00" },
		"names twice":               func(m *api.Mir) { m.Fns[0].Locals[1].Name, m.Fns[0].Locals[2].Name = "a", "a" },
		"mut":                       func(m *api.Mir) { m.Fns[0].Locals[0].Mut, m.Fns[0].Locals[1].Mut = true, true },
		"other parameters' names":   func(m *api.Mir) { m.Items.Fns[0].Params[0].Name = "y" },
		"blocks that nothing finds": func(m *api.Mir) { m.Fns[1].Blocks = append(m.Fns[1].Blocks, m.Fns[1].Blocks[0]) },
		"other Nodes":               func(m *api.Mir) { m.Items.Fns[2].Node = 1 << 40 },
		"a local less":              func(m *api.Mir) { m.Fns[1].Locals = m.Fns[1].Locals[:1] },
	} {
		m := fresh()
		change(&m)
		wantCheck(t, what, m, true)
	}
}

// 19.1, rule 1: how many locals, blocks and statements there may be.
func TestSizes(t *testing.T) {
	m := one(t, "_1 = 1")
	for _, more := range []int{0, 1} {
		wantCheck(t, "locals", changed(m, func(f *api.MFn) {
			f.Locals = append(slices.Clone(f.Locals), slices.Repeat([]api.Local{{Type: "Box<L>"}}, MaxTemps+more-len(f.Locals))...)
		}), more == 0)
		wantCheck(t, "blocks", changed(m, func(f *api.MFn) {
			f.Blocks = slices.Repeat(f.Blocks, api.MaxBlocks+more)
		}), more == 0)
		wantCheck(t, "statements", changed(m, func(f *api.MFn) {
			f.Blocks = []api.MBlock{{Stmts: slices.Repeat(f.Blocks[0].Stmts, api.MaxNodes+more), Term: f.Blocks[0].Term}}
		}), more == 0)
		wantCheck(t, "statements of a later block", changed(m, func(f *api.MFn) {
			f.Blocks = append(slices.Clone(f.Blocks), api.MBlock{Stmts: slices.Repeat(f.Blocks[0].Stmts, api.MaxNodes+more), Term: f.Blocks[0].Term})
		}), more == 0)
	}
	if MaxTemps != 4096 {
		t.Error(MaxTemps)
	}
}

// 19.1, rule 2: places, by copies and moves of what is there.
func TestPlaces(t *testing.T) {
	wantRows(t, one, []row{
		{"_1 = copy _3.*; _1 = copy _4.0; _3 = move _4.1; _1 = copy _4.1.*; _1 = copy _5.*.0; _1 = copy _6.*.1.*; _1 = copy _7.@1; _4 = move _7.@2; _1 = copy _7.@2.1.*; _1 = copy _8.*.@1; _1 = copy _8.*.@2.0", true},
		{"_4 = move _9.0; _7 = move _9.1; _0 = copy _9.2; _1 = copy _9.0.1.*; _1 = copy _9.1.@2.1.*; _12 = move _9.3.*; _12 = move _9.3.*.@1.*; _12 = move _14.*.3.*.@1.*.@1.*; _3 = move _10.*.1; _2 = copy _13.@1; _1 = copy _15.*.*; _1 = copy _18.*.*", true},
		{"_1.0 = 1; _1.* = 1; _1.@0 = 1; _2.* = true; _0.* = (); _0.0 = ()", false},
		{"_1 = copy _3.*.*; _1 = copy _3.0; _1 = copy _4.2; _1 = copy _4.*; _1 = copy _4.@0; _1 = copy _4.0.0; _1 = copy _5.0; _1 = copy _5.*.*; _1 = copy _5.*.2; _1 = copy _5.@1; _1 = copy _7.0; _1 = copy _7.1; _1 = copy _7.@0; _1 = copy _7.@3; _1 = copy _7.@1.*; _1 = copy _7.*; _1 = copy _8.@1; _1 = copy _8.*.*; _1 = copy _11.0; _1 = copy _11.*; _1 = copy _3.@0; _1 = copy _3.*.0", false},
		{"_1 = copy _20; _1 = copy _21; _21 = 1; _1 = copy _-1; _-1 = 1; _1 = copy _99999999999; drop _21; live _21; live _-1; dead _21; _16 = ref _21; _1 = tag _21", false},
	})
	for _, local := range []int{math.MinInt, math.MaxInt} {
		m := one(t, "_1 = copy _1")
		main(&m).Blocks[0].Stmts[0].R.Args[0].Place.Local = local
		wantCheck(t, "a local", m, false)
	}
	for _, step := range []int{math.MinInt, math.MaxInt, -18, 16} {
		for _, local := range []int{3, 4, 5, 7} {
			m := one(t, "_1 = copy _1")
			main(&m).Blocks[0].Stmts[0].R.Args[0].Place = api.Place{Local: local, Path: []int{step}}
			wantCheck(t, "a step", m, false)
		}
	}
	long := strings.Repeat(".@1.*", api.MaxDeep/2)
	wantRows(t, one, []row{{"_12 = move _12" + long + "; _12" + long + " = pick L 0; drop _12" + long, true}, {"drop _12" + long + ".@1; drop _12" + long + ".@1.*", false}})
}

// 19.1, rule 3: operands.
func TestOperands(t *testing.T) {
	wantRows(t, one, []row{
		{"_1 = copy _1; _2 = copy _2; _0 = copy _0; _5 = copy _5; _16 = copy _16; _19 = copy _19; _3 = move _3; _4 = move _4; _6 = move _6; _7 = move _7; _11 = move _11; _17 = move _17; _15 = move _15; _13 = move _13", true},
		{"_1 = 0; _1 = -9223372036854775808; _1 = 9223372036854775807; _2 = true; _2 = false; _0 = ()", true},
		{"_1 = move _1; _2 = move _2; _0 = move _0; _5 = move _5; _16 = move _16; _3 = copy _3; _4 = copy _4; _6 = copy _6; _7 = copy _7; _11 = copy _11; _17 = copy _17; _13 = copy _13", false},
		{"_2 = 1; _0 = 1; _1 = true; _1 = (); _2 = (); _0 = false; _3 = 1; _1 = copy _2; _5 = copy _16; _5 = move _6; _6 = move _17; _3 = move _15; _8 = copy _5", false},
	})
	for _, o := range []api.Operand{
		{}, {Kind: 6}, {Kind: -1}, {Kind: api.ONum, Num: 5, Place: api.Place{Local: 1}}, {Kind: api.ONum, Place: api.Place{Path: []int{0}}}, {Kind: api.OCopy, Place: api.Place{Local: 1}, Num: 1}, {Kind: api.OCopy, Place: api.Place{Local: 1}, Num: -1},
	} {
		m := one(t, "_1 = 1")
		main(&m).Blocks[0].Stmts[0].R.Args[0] = o
		wantCheck(t, "an operand", m, false)
	}
	for _, o := range []api.Operand{{Kind: api.OTruth, Num: 2}, {Kind: api.OTruth, Num: -1}, {Kind: api.OTruth, Num: math.MinInt64}, {Kind: api.OTruth, Num: 1, Place: api.Place{Local: 2}}, {Kind: api.OTruth, Place: api.Place{Path: []int{-1}}}} {
		m := one(t, "_2 = true")
		main(&m).Blocks[0].Stmts[0].R.Args[0] = o
		wantCheck(t, "a truth", m, false)
	}
	for _, o := range []api.Operand{{Kind: api.OUnit, Num: 1}, {Kind: api.OUnit, Place: api.Place{Local: 1}}, {Kind: api.OUnit, Place: api.Place{Path: []int{0}}}} {
		m := one(t, "_0 = ()")
		main(&m).Blocks[0].Stmts[0].R.Args[0] = o
		wantCheck(t, "()", m, false)
	}
	m := one(t, "_3 = move _3")
	main(&m).Blocks[0].Stmts[0].R.Args[0].Num = 7
	wantCheck(t, "a move with a Num", m, false)
	m = one(t, "_1 = 1")
	main(&m).Blocks[0].Stmts[0].R.Args[0].Place.Path = []int{}
	wantCheck(t, "an empty path", m, true)
}

// 19.1, rule 4: rvalues and their types.
func TestRvalues(t *testing.T) {
	wantRows(t, one, []row{
		{"_1 = copy _1 + 1; _1 = 1 - copy _1; _1 = 2 * 3; _1 = copy _1 / copy _4.0; _1 = 1 / 0; _1 = 1 % 0; _2 = 1 < 2; _2 = copy _1 <= 2; _2 = 1 > copy _1; _2 = 1 >= 1; _2 = 1 == 2; _2 = 1 != copy _1; _2 = true == false; _2 = copy _2 != copy _2", true},
		{"_2 = 1 + 1; _1 = 1 < 2; _1 = 1 == 1; _1 = true + false; _2 = true < false; _2 = true == 1; _2 = 1 != true; _2 = () == (); _2 = 1 && 1; _2 = true && true; _2 = true || true; _1 = 1 = 1; _1 = 1 add 1; _1 = 1 ++ 1; _2 = copy _5 == copy _5; _1 = copy _3 + 1; _1 = move _1 + 1; _1 = 1 + move _3; _2 = move _4 == move _4; _0 = 1 + 1; _0 = 1 == 1", false},
		{"_1 = neg 1; _1 = neg copy _1; _2 = not true; _2 = not copy _2", true},
		{"_2 = neg 1; _2 = neg true; _1 = neg true; _1 = not 1; _2 = not 1; _1 = not true; _1 = neg (); _2 = not move _3; _0 = neg 1; _0 = not true", false},
		{"_5 = ref _4; _16 = ref _1; _16 = ref _4.0; _16 = ref _5.*.0; _18 = ref _4.1; _18 = ref _3; _8 = ref _7; _19 = ref _0; _20 = ref _2; _16 = ref _8.*.@1; _5 = ref _5.*; _5 = ref _6.*; _5 = ref _10.*; _16 = ref _3.*", true},
		{"_6 = mut _4; _17 = mut _1; _17 = mut _4.0; _17 = mut _5.*.0; _14 = mut _9; _6 = mut _14.*.0; _6 = mut _6.*; _6 = mut _9.1.@2", true},
		{"_6 = ref _4; _5 = mut _4; _17 = ref _1; _16 = mut _1; _5 = ref _5; _5 = ref _6; _6 = mut _6; _5 = ref _1; _16 = ref _2; _4 = ref _4; _3 = ref _1; _5 = ref _10; _16 = ref _3; _18 = ref _1; _16 = ref _4.2; _1 = ref _1; _0 = ref _0; _8 = ref _7.@0", false},
		{"_3 = box 1; _3 = box copy _1; _15 = box move _3; _10 = box move _4; _10 = box move _9.0", true},
		{"_3 = box true; _3 = box move _3; _15 = box 1; _10 = box copy _5; _10 = box move _6; _1 = box 1; _10 = box copy _4; _15 = box copy _16; _4 = box 1; _16 = box 1; _3 = box ()", false},
		{"_4 = make S 1 move _3; _4 = make S copy _1 move _4.1; _11 = make N; _9 = make P move _4 move _7 () move _9.3", true},
		{"_4 = make S 1; _4 = make S; _4 = make S 1 move _3 1; _4 = make S move _3 1; _4 = make S true move _3; _4 = make S 1 move _15; _4 = make S 1 copy _3; _4 = make N; _11 = make N 1; _11 = make N (); _11 = make S 1 move _3; _4 = make T 1 move _3; _7 = make E; _7 = make E 1; _1 = make i64; _9 = make P move _7 move _4 () move _9.3; _4 = make f 1 move _3; _1 = make i64 1; _3 = make Box<i64> 1", false},
		{"_7 = pick E 0; _7 = pick E 1 2; _7 = pick E 1 copy _1; _7 = pick E 2 move _4; _12 = pick L 0; _12 = pick L 1 move _9.3; _13 = pick C 0; _13 = pick C 1 true", true},
		{"_7 = pick E 0 1; _7 = pick E 0 (); _7 = pick E 1; _7 = pick E 1 true; _7 = pick E 1 1 1; _7 = pick E 2 1; _7 = pick E 3; _7 = pick E -1; _7 = pick E 3 1; _12 = pick E 0; _7 = pick L 0; _7 = pick F 0; _4 = pick S 0; _4 = pick S 0 1; _1 = pick i64 0; _12 = pick L 1 move _12; _13 = pick C 1 move _2; _8 = pick E 0", false},
		{"_1 = tag _7; _1 = tag _8.*; _1 = tag _9.1; _1 = tag _12; _1 = tag _9.3.*; _1 = tag _14.*.1; _1 = tag _13", true},
		{"_2 = tag _7; _1 = tag _8; _1 = tag _4; _1 = tag _1; _1 = tag _3; _1 = tag _7.@0; _1 = tag _7.@1; _1 = tag _9; _0 = tag _7; _1 = tag _9.3; _7 = tag _7", false},
	})
}

// 19.1, rule 4: each rvalue with one operand less and more.
func TestOperandsCount(t *testing.T) {
	for _, line := range []string{"_1 = 1", "_1 = 1 + 1", "_1 = neg 1", "_2 = not true", "_16 = ref _1", "_17 = mut _1", "_3 = box 1", "_4 = make S 1 move _3", "_11 = make N", "_7 = pick E 0", "_7 = pick E 1 1", "_1 = tag _7"} {
		m := one(t, line)
		wantCheck(t, line, m, true)
		args := main(&m).Blocks[0].Stmts[0].R.Args
		for n := range 4 {
			changedArgs := append(slices.Clone(args), slices.Repeat([]api.Operand{{Kind: api.ONum}}, 4)...)[:n]
			main(&m).Blocks[0].Stmts[0].R.Args = changedArgs
			wantCheck(t, line+" with "+strconv.Itoa(n), m, n == len(args))
		}
	}
}

// moreOfR are the changes of one field of an rvalue; which kinds name it.
func moreOfR() map[string]func(r *api.Rvalue) {
	return map[string]func(r *api.Rvalue){
		"Op":          func(r *api.Rvalue) { r.Op = "+" },
		"Args":        func(r *api.Rvalue) { r.Args = []api.Operand{{Kind: api.ONum}} },
		"Place.Local": func(r *api.Rvalue) { r.Place.Local = 1 },
		"Place.Path":  func(r *api.Rvalue) { r.Place.Path = []int{0} },
		"Name":        func(r *api.Rvalue) { r.Name = "S" },
		"Variant":     func(r *api.Rvalue) { r.Variant = 1 },
	}
}

// 19.1: fields that a Kind does not name are zero or empty.
func TestFieldsMore(t *testing.T) {
	for line, named := range map[string]string{
		"_1 = 1": "Args", "_1 = 1 + 1": "Op Args", "_1 = neg 1": "Args", "_2 = not true": "Args", "_16 = ref _1": "Place", "_17 = mut _1": "Place", "_3 = box 1": "Args",
		"_4 = make S 1 move _3": "Name Args", "_11 = make N": "Name Args", "_7 = pick E 0": "Name Variant Args", "_7 = pick E 1 1": "Name Variant Args", "_1 = tag _7": "Place",
		"drop _3": "", "free _3": "", "live _1": "", "dead _1": "",
	} {
		wantCheck(t, line, one(t, line), true)
		for field, change := range moreOfR() {
			m := one(t, line)
			change(&main(&m).Blocks[0].Stmts[0].R)
			if name, _, _ := strings.Cut(field, "."); !strings.Contains(named, name) {
				wantCheck(t, line+" with "+field, m, false)
			}
		}
		m := one(t, line)
		if s := &main(&m).Blocks[0].Stmts[0]; s.Kind != api.MSet {
			s.R.Kind = api.RUse
			wantCheck(t, line+" with an R's Kind", m, false)
		} else {
			s.R.Kind = 0
			wantCheck(t, line+" without an R's Kind", m, false)
			s.R.Kind = 11
			wantCheck(t, line+" with another R's Kind", m, false)
		}
	}
	for line, named := range map[string]string{
		"goto 1": "To", "if true 1 2": "Arg To", "switch 1 5 1 2": "Arg Values To", "switch 1 2": "Arg Values To", "_0 = call print 1 -> 1": "Name Args Place To", "_1 = call read -> 1": "Name Args Place To", "_3 = call g -> 1": "Name Args Place To", "return": "", "panic 103": "Code",
	} {
		wantCheck(t, line, ending(t, line), true)
		for field, change := range map[string]func(x *api.MTerm){
			"Arg.Kind":        func(x *api.MTerm) { x.Arg.Kind = api.OUnit },
			"Arg.Num":         func(x *api.MTerm) { x.Arg.Num = 3 },
			"Arg.Place.Local": func(x *api.MTerm) { x.Arg.Place.Local = 1 },
			"Arg.Place.Path":  func(x *api.MTerm) { x.Arg.Place.Path = []int{-1} },
			"Values":          func(x *api.MTerm) { x.Values = []int64{1} },
			"To":              func(x *api.MTerm) { x.To = []int{1} },
			"Name":            func(x *api.MTerm) { x.Name = "g" },
			"Args":            func(x *api.MTerm) { x.Args = []api.Operand{{Kind: api.ONum}} },
			"Place.Local":     func(x *api.MTerm) { x.Place.Local = 1 },
			"Place.Path":      func(x *api.MTerm) { x.Place.Path = []int{0} },
			"Code":            func(x *api.MTerm) { x.Code = api.ExitPanic },
		} {
			m := ending(t, line)
			change(&main(&m).Blocks[0].Term)
			if name, _, _ := strings.Cut(field, "."); !strings.Contains(" "+named+" ", " "+name+" ") {
				wantCheck(t, line+" with "+field, m, false)
			}
		}
	}
}

// 19.1, rule 5: statements.
func TestStatements(t *testing.T) {
	wantRows(t, one, []row{
		{"drop _3; drop _4; drop _7; drop _9; drop _10; drop _12; drop _15; drop _4.1; drop _7.@2; drop _10.*; drop _14.*.3; drop _5.*; drop _9.1", true},
		{"drop _1; drop _2; drop _0; drop _5; drop _6; drop _8; drop _11; drop _13; drop _14; drop _16; drop _4.0; drop _3.*; drop _7.@1; drop _4.2", false},
		{"free _3; free _10; free _15; free _15.*; free _4.1; free _14.*.3; free _18.*", true},
		{"free _1; free _4; free _5; free _6; free _7; free _9; free _3.*; free _12; free _0; free _18; free _10.*", false},
		{"live _0; live _1; live _20; dead _0; dead _3; dead _20", true},
		{"live _4.0; live _3.*; live _7.@1; dead _4.1; dead _5.*; dead _9.0", false},
	})
	for _, kind := range []int{-1, 0, 6, math.MaxInt} {
		m := one(t, "_1 = 1")
		main(&m).Blocks[0].Stmts[0].Kind = kind
		wantCheck(t, "a statement's Kind", m, false)
	}
	m := one(t, "drop _3")
	main(&m).Blocks[0].Stmts[0].R = api.Rvalue{Args: []api.Operand{}, Place: api.Place{Path: []int{}}}
	wantCheck(t, "empty lists", m, true)
	main(&m).Blocks[0].Stmts[0].Kind = api.MSet
	wantCheck(t, "MSet of nothing", m, false)
}

// 19.1, rule 6: terminators.
func TestEnds(t *testing.T) {
	wantRows(t, ending, []row{
		{"goto 0; goto 1; goto 2; if true 1 2; if copy _2 0 0; if copy _20.* 2 1; if false 1 1; switch copy _1 1; switch 5 0 1 2; switch copy _4.0 -9223372036854775808 1 -1 2 0 1 9223372036854775807 0 2; return; panic 101; panic 102; panic 103", true},
		{"goto 3; goto -1; goto 99999999999; if true 1 3; if true 3 1; if true -1 0; if 1 1 2; if () 1 2; if copy _1 1 2; if copy _20 1 2; if move _2 1 2; if copy _21 1 2", false},
		{"switch true 1; switch copy _2 0 1 2; switch () 1; switch copy _3 1; switch move _1 1; switch copy _1 0 1 0 2 1; switch copy _1 1 1 0 2 1; switch copy _1 5 1 6 2 6 1 0; switch copy _1 0 1 3; switch copy _1 0 3 1; switch copy _1 -1", false},
		{"panic 0; panic 110; panic 111; panic 100; panic 104; panic -103", false},
		{"_0 = call print 1 -> 1; _9.2 = call print copy _1 -> 0; _1 = call read -> 1; _4.0 = call read -> 2; _3.* = call read -> 2; _5 = call f 1 copy _5 move _10 -> 1; _3 = call g -> 1; _4.1 = call g -> 1; _0 = call main -> 0", true},
		{"_1 = call print 1 -> 1; _0 = call print true -> 1; _0 = call print -> 1; _0 = call print 1 2 -> 1; _0 = call print () -> 1; _0 = call read -> 1; _2 = call read -> 1; _1 = call read 1 -> 1; _0 = call panic -> 1; _0 = call h -> 1; _0 = call S -> 1; _1 = call g -> 1; _15 = call g -> 1; _3 = call g 1 -> 1; _5 = call f -> 1; _5 = call f 1 copy _5 -> 1; _5 = call f 1 copy _5 move _10 1 -> 1; _5 = call f copy _5 1 move _10 -> 1; _5 = call f 1 move _6 move _10 -> 1; _6 = call f 1 copy _5 move _10 -> 1; _5 = call f 1 copy _5 copy _10 -> 1; _21 = call main -> 1; _3 = call g -> 3; _3 = call g -> -1; _4.2 = call g -> 1", false},
	})
	for line, right := range map[string]int{"goto 1": 1, "if true 1 1": 2, "switch 1 1": 1, "switch 1 0 1 1": 2, "switch 1 0 1 2 1 1": 3, "_0 = call print 1 -> 1": 1, "_3 = call g -> 1": 1, "return": 0, "panic 103": 0} {
		for n := range 5 {
			m := ending(t, line)
			main(&m).Blocks[0].Term.To = slices.Repeat([]int{1}, n)
			wantCheck(t, line+" with "+strconv.Itoa(n), m, n == right)
		}
	}
	for _, kind := range []int{-1, 0, 7} {
		m := ending(t, "return")
		main(&m).Blocks[0].Term.Kind = kind
		wantCheck(t, "an end's Kind", m, false)
	}
	m := ending(t, "_0 = call print 1 -> 1")
	main(&m).Blocks[0].Term.Name = ""
	wantCheck(t, "a call of nothing", m, false)
}

// 19.1: places in the source may be any numbers; lists may be nil or empty.
func TestFreeFields(t *testing.T) {
	m := withMain(t, "bb0\n_1 = 1\ndrop _3\nif true 0 1\nbb1\n_0 = call print 1 -> 2\nbb2\nreturn\n")
	numbers := []int{math.MinInt, -1, 0, 7, math.MaxInt}
	for _, a := range numbers {
		for _, b := range numbers {
			for k := range main(&m).Blocks {
				x := &main(&m).Blocks[k]
				x.Term.At, x.Term.Till = a, b
				for i := range x.Stmts {
					x.Stmts[i].From, x.Stmts[i].To = b, a
				}
			}
			wantCheck(t, "places in the source", m, true)
		}
	}
	for k := range m.Fns[2].Blocks {
		x := &m.Fns[2].Blocks[k]
		if len(x.Stmts) == 0 {
			x.Stmts = []api.MStmt{}
		}
		if x.Term.Kind == api.TReturn {
			x.Term.To, x.Term.Values, x.Term.Args, x.Term.Place.Path, x.Term.Arg.Place.Path = []int{}, []int64{}, []api.Operand{}, []int{}, []int{}
		}
	}
	wantCheck(t, "empty lists", m, true)
}
