package drops

import (
	"math"
	"math/rand"
	"slices"
	"testing"

	"patina/api"
	"patina/mir"
	"patina/mirtest"
)

// isZero tells whether a program has nothing.
func isZero(m api.Mir) bool {
	return len(m.Fns)+len(m.Items.Structs)+len(m.Items.Enums)+len(m.Items.Fns) == 0
}

// R1, R4: ErrMir ahead of ErrNone, with nothing beside them.
func TestErrors(t *testing.T) {
	good := programOf(t, "it(c: bool, b: Box<i64>)", "bb0; _0 = (); if copy _1 1 2; bb1; drop _2; goto 2; bb2; return")
	wrong := func(change func(m *api.Mir)) api.Mir {
		m := good
		m.Fns = slices.Clone(good.Fns)
		change(&m)
		return m
	}
	bad := []api.Mir{
		{}, {Items: good.Items}, wrong(func(m *api.Mir) { m.Fns = m.Fns[1:] }), wrong(func(m *api.Mir) { m.Fns[0].Blocks = nil }), wrong(func(m *api.Mir) { m.Fns[4].Params = 1 }), wrong(func(m *api.Mir) { m.Fns[2].Locals = nil }), wrong(func(m *api.Mir) { m.Items.Fns = nil }),
	}
	numbers := []int{-1, 5, 0, 4, math.MinInt, math.MaxInt}
	for _, m := range bad {
		if x, e := Make(m); e != api.ErrMir || !isZero(x) {
			t.Error(x, e)
		}
		for _, f := range numbers {
			if l, e := Edges(m, f); e != api.ErrMir || len(l) > 0 {
				t.Error(f, l, e)
			}
		}
	}
	for _, f := range numbers {
		want := api.ErrNone
		if f >= 0 && f < 5 {
			want = api.OK
		}
		if l, e := Edges(good, f); e != want || (len(l) > 0) != (f == 0) {
			t.Error(f, l, e)
		}
	}
}

// branching is a function in which a place is dropped on one way of two, in so many blocks.
func branching(t *testing.T, blocks int) api.Mir {
	m := programOf(t, "it(c: bool, b: Box<i64>, d: D)", "bb0; _0 = (); switch 1 1 2 2 3 1; bb1; drop _2; goto 3; bb2; drop _3.0; goto 3; bb3; return")
	for len(m.Fns[0].Blocks) < blocks {
		m.Fns[0].Blocks = append(m.Fns[0].Blocks, api.MBlock{Term: api.MTerm{Kind: api.TReturn}})
	}
	return m
}

// 23.1: ErrLong of more than MaxBlocks blocks.
func TestManyBlocks(t *testing.T) {
	for blocks, want := range map[int]api.Errno{4: api.OK, api.MaxBlocks - 4: api.OK, api.MaxBlocks - 3: api.OK, api.MaxBlocks - 2: api.ErrLong, api.MaxBlocks - 1: api.ErrLong, api.MaxBlocks: api.ErrLong} {
		m := branching(t, blocks)
		x, e := Make(m)
		if e != want || e == api.OK && (len(x.Fns[0].Blocks) != blocks+3 || mir.Check(x) != api.OK) || e != api.OK && !isZero(x) {
			t.Error(blocks, e)
		}
		if l, e := Edges(m, 0); e != api.OK || edgesText(l) != "0>3 _2 _3.0; 1>3 _3.0; 2>3 _2" {
			t.Error(blocks, edgesText(l), e)
		}
	}
	m := branching(t, api.MaxBlocks)
	m.Fns[0].Blocks[1].Stmts, m.Fns[0].Blocks[2].Stmts = nil, nil
	if x, e := Make(m); e != api.OK || len(x.Fns[0].Blocks) != api.MaxBlocks {
		t.Error("no new block:", e)
	}
}

// filled is a block's statements with so many ahead that do nothing.
func filled(count int, l []api.MStmt) []api.MStmt {
	return append(slices.Repeat([]api.MStmt{{Kind: api.MDead, Place: api.Place{}}}, count-len(l)), l...)
}

// 23.1: ErrLong of a block of more than MaxNodes statements.
func TestManyStatements(t *testing.T) {
	for _, c := range []struct {
		row   string
		more  int // statements than there were
		noWay bool
	}{
		{"drop _2.0; drop _2", 1, false}, {"drop _2.1; drop _2.2; drop _2", 0, false}, {"drop _2.1; drop _2; drop _2", 0, false}, {"drop _3.*.1; drop _3", 2, false}, {"drop _2; drop _2; drop _3; drop _3", -2, false}, {"drop _2.0; drop _2", -2, true},
	} {
		for count := api.MaxNodes - 3; count <= api.MaxNodes; count++ {
			m := programOf(t, "it(c: bool, t: T, e: Box<T>)", "bb0; "+c.row+"; panic 101; bb1; panic 101")
			b := m.Fns[0].Blocks
			b[0].Stmts = filled(count, b[0].Stmts)
			if c.noWay {
				b[0], b[1] = b[1], b[0]
			}
			want := api.OK
			if count+c.more > api.MaxNodes {
				want = api.ErrLong
			}
			x, e := Make(m)
			if e != want || e != api.OK && !isZero(x) || e == api.OK && mir.Check(x) != api.OK {
				t.Error(c.row, count, e)
			}
		}
	}
}

// wide is a function in which locals of 64 Boxes in four parts are dropped on one way, and on the other one, of each part, one Box is; of the last local so many are left there.
func wide(t *testing.T, locals, left int) api.Mir {
	b := mirtest.Bench{Types: "struct W { a: V, b: V, c: V, d: V } struct V { a: Box<()>, b: Box<()>, c: Box<()>, d: Box<()>, e: Box<()>, f: Box<()>, g: Box<()>, h: Box<()>, i: Box<()>, j: Box<()>, k: Box<()>, l: Box<()>, m: Box<()>, n: Box<()>, o: Box<()>, p: Box<()> }", Helpers: [][2]string{
		{"give() -> W", "bb0; goto 0"}, {"main()", "bb0; _0 = (); return"},
	}}
	it, _ := b.Items("it(c: bool)")
	m, right := b.Program(it, "bb0\ngoto 0\n")
	f := &m.Fns[0]
	f.Blocks = nil
	end := api.MTerm{Kind: api.TGoto, To: []int{locals + 3}}
	parts, wholes := api.MBlock{Term: end}, api.MBlock{Term: end}
	for k := range locals {
		p := api.Place{Local: len(f.Locals)}
		f.Locals = append(f.Locals, api.Local{Type: "W"})
		f.Blocks = append(f.Blocks, api.MBlock{Term: api.MTerm{Kind: api.TCall, Name: "give", Place: p, To: []int{k + 1}}})
		wholes.Stmts = append(wholes.Stmts, api.MStmt{Kind: api.MDrop, Place: p})
		gone := 4
		if k == locals-1 {
			gone = 64 - left
		}
		for n := range gone {
			parts.Stmts = append(parts.Stmts, api.MStmt{Kind: api.MDrop, Place: api.Place{Local: p.Local, Path: []int{n % 4, n / 4}}})
		}
	}
	first := api.MTerm{Kind: api.TIf, Arg: api.Operand{Kind: api.OCopy, Place: api.Place{Local: 1}}, To: []int{locals + 1, locals + 2}}
	f.Blocks = append(f.Blocks, api.MBlock{Term: first}, parts, wholes, api.MBlock{Term: api.MTerm{Kind: api.TPanic, Code: api.ExitPanic}})
	if e := mir.Check(m); !right || e != api.OK {
		t.Fatal(right, e)
	}
	return m
}

// 23.1: ErrLong of a new block of more than MaxNodes statements; Edges tell of it all the same.
func TestManyDropsOnAnEdge(t *testing.T) {
	const locals = 334 // all but the last one have 60 Boxes left: 19980
	for left, want := range map[int]api.Errno{19: api.OK, 20: api.OK, 21: api.ErrLong, 22: api.ErrLong} {
		m := wide(t, locals, left)
		x, e := Make(m)
		if e != want || e != api.OK && !isZero(x) || e == api.OK && mir.Check(x) != api.OK {
			t.Error(left, e)
		}
		if l, e := Edges(m, 0); e != api.OK || len(l) != 1 || len(l[0].Places) != 60*(locals-1)+left {
			t.Error(left, e)
		}
	}
}

// P1: MIR of any make, and any numbers.
func TestArbitrary(t *testing.T) {
	r := rand.New(rand.NewSource(232))
	right := 0
	for range 800 {
		m := (&mirtest.Maker{Choose: r.Intn, Plain: r.Intn(3) == 0}).Program()
		for range 1 + r.Intn(3) {
			mirtest.Spoil(&m, r.Intn)
		}
		want, f := mir.Check(m), r.Intn(9)-2
		x, e := Make(m)
		l, g := Edges(m, f)
		if want != api.OK {
			if e != want || g != want || !isZero(x) || len(l) > 0 {
				t.Fatal(want, e, g)
			}
			continue
		}
		right++
		if e != api.OK || (g == api.OK) != (f >= 0 && f < len(m.Fns)) || g != api.OK && (g != api.ErrNone || len(l) > 0) {
			t.Fatal(f, e, g)
		}
	}
	if right < 50 || right > 750 {
		t.Error(right)
	}
}
