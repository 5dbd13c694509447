package opt

import (
	"math/rand"
	"slices"
	"strconv"
	"testing"
	"time"

	"patina/api"
	"patina/mir"
	"patina/mirtest"
	"patina/mirun"
)

// isZero tells whether a program has nothing.
func isZero(m api.Mir) bool {
	return len(m.Fns)+len(m.Items.Structs)+len(m.Items.Enums)+len(m.Items.Fns) == 0
}

// R1, R4: ErrMir, with nothing beside it.
func TestErrors(t *testing.T) {
	good := programOf(t, "main()", "bb0; _0 = (); return")
	for _, change := range []func(m *api.Mir){
		func(m *api.Mir) { *m = api.Mir{} }, func(m *api.Mir) { m.Fns = nil }, func(m *api.Mir) { m.Fns = m.Fns[1:] }, func(m *api.Mir) { m.Items.Fns = nil },
		func(m *api.Mir) { m.Fns[0].Blocks = nil }, func(m *api.Mir) { m.Fns[1].Params++ }, func(m *api.Mir) { m.Fns[2].Locals = nil }, func(m *api.Mir) { m.Fns[0].Name = "it" },
	} {
		m := good
		m.Fns = slices.Clone(good.Fns)
		change(&m)
		if got, e := Make(m); e != api.ErrMir || !isZero(got) {
			t.Error(got, e)
		}
	}
	if got, e := Make(good); e != api.OK || !mir.Same(got, good) {
		t.Error(e)
	}
}

// P1: MIR with one thing changed, right or not.
func TestSpoilt(t *testing.T) {
	r := rand.New(rand.NewSource(254))
	right := 0
	for k := range 3000 {
		m := (&mirtest.Maker{Choose: r.Intn, Plain: k%3 == 0, Copied: k%3 == 1, Onward: k%2 == 0}).Program()
		mirtest.Spoil(&m, r.Intn)
		want := mir.Check(m)
		if got, e := Make(m); e != want || e != api.OK && !isZero(got) {
			t.Fatal(e, want)
		}
		if want == api.OK {
			right++
			madeOf(t, m)
		}
	}
	if right < 200 || right > 2500 {
		t.Error(right)
	}
}

// 25.1: a function that is never called, and one that never comes back, are made shorter like others; places in the source stay with what they are of.
func TestAlone(t *testing.T) {
	m := programOf(t, "it(n: i64) -> i64", "2: i64; bb0; _2 = 3; _0 = copy _1 * copy _2; return")
	got := madeOf(t, m)
	f := got.Fns[0]
	if rowOf(got, 0) != "bb0; _0 = copy _1 * 3; return" || f.Blocks[0].Stmts[0].From != 1 || f.Blocks[0].Stmts[0].To != 2 || f.Blocks[0].Term.At != 2 {
		t.Error(rowOf(got, 0), f)
	}
	for n := range int64(5) {
		if v, o, e := mirun.Call(got, 0, []int64{n}, 9); v != 3*n || o.End != api.EndDone || o.Steps != 2 || e != api.OK {
			t.Error(n, v, o, e)
		}
	}
}

// long is a main of blocks that hand a number on, each with so many statements, and behind which comes one of many.
func long(r *rand.Rand, locals, blocks, statements int) api.Mir {
	f := api.MFn{Name: "main", Locals: []api.Local{{Type: "()"}}}
	for range locals - 1 {
		f.Locals = append(f.Locals, api.Local{Type: "i64"})
	}
	place := func() api.Place { return api.Place{Local: 1 + r.Intn(locals-1)} }
	use := func() api.Operand {
		if r.Intn(3) == 0 {
			return api.Operand{Kind: api.ONum, Num: int64(r.Intn(3))}
		}
		return api.Operand{Kind: api.OCopy, Place: place()}
	}
	for b := range blocks {
		var k api.MBlock
		for range statements {
			v := api.Rvalue{Kind: api.RUse, Args: []api.Operand{use()}}
			if r.Intn(3) == 0 {
				v = api.Rvalue{Kind: api.RBin, Op: "+", Args: []api.Operand{use(), use()}}
			}
			k.Stmts = append(k.Stmts, api.MStmt{Kind: api.MSet, Place: place(), R: v})
		}
		next := (b + 1) % blocks
		k.Term = []api.MTerm{
			{Kind: api.TGoto, To: []int{next}}, {Kind: api.TSwitch, Arg: use(), Values: []int64{0, 1}, To: []int{r.Intn(blocks), next, r.Intn(blocks)}}, {Kind: api.TCall, Name: "read", Place: place(), To: []int{next}},
		}[r.Intn(3)]
		f.Blocks = append(f.Blocks, k)
	}
	return api.Mir{Items: api.Items{Fns: []api.Fn{{Name: "main", Ret: "()"}}}, Fns: []api.MFn{f}}
}

// P1: functions as long as they may be.
func TestLong(t *testing.T) {
	start := time.Now()
	r := rand.New(rand.NewSource(255))
	for _, c := range [][3]int{{2, 1, 0}, {30, 30, 30}, {mir.MaxTemps, api.MaxBlocks, 10}, {mir.MaxTemps, 3, api.MaxNodes}, {30, api.MaxBlocks, 300}, {mir.MaxTemps, api.MaxBlocks, 0}} {
		m := long(r, c[0], c[1], c[2])
		wantSame(t, m, madeOf(t, m), []byte("ABCABC"), ends{})
	}
	if d := time.Since(start); d > time.Minute {
		t.Error(d)
	}
}

// 25.1: blocks that would have too many statements together stay two.
func TestFullBlocks(t *testing.T) {
	for _, more := range []int{-1, 0, 1} {
		m := programOf(t, "it(n: i64)", "bb0; _0 = (); goto 1; bb1; _0 = (); goto 1")
		for b, count := range []int{api.MaxNodes / 2, api.MaxNodes/2 + more} {
			m.Fns[0].Blocks[b] = api.MBlock{Term: api.MTerm{Kind: api.TGoto, To: []int{b + 1}}}
			for range count {
				m.Fns[0].Blocks[b].Stmts = append(m.Fns[0].Blocks[b].Stmts, api.MStmt{Kind: api.MSet, Place: api.Place{Local: 1}, R: api.Rvalue{Kind: api.RNeg, Args: []api.Operand{{Kind: api.OCopy, Place: api.Place{Local: 1}}}}})
			}
		}
		m.Fns[0].Blocks = append(m.Fns[0].Blocks, api.MBlock{Term: api.MTerm{Kind: api.TReturn}})
		want := 1
		if more > 0 {
			want = 2
		}
		if got := madeOf(t, m); len(got.Fns[0].Blocks) != want {
			t.Error(more, len(got.Fns[0].Blocks))
		}
	}
}

// P1: a switch of very many numbers, which lead to few blocks.
func TestManyNumbers(t *testing.T) {
	m := programOf(t, "main()", "1: i64; 2: (); bb0; _1 = call read -> 1; bb1; switch copy _1 0 2 2; bb2; _2 = call print 1 -> 4; bb3; _2 = call print 2 -> 4; bb4; _0 = (); return")
	s := &m.Fns[0].Blocks[1].Term
	s.Values, s.To = nil, nil
	for n := range int64(30000) {
		s.Values = append(s.Values, n)
		s.To = append(s.To, 2+int(n)%2)
	}
	s.To = append(s.To, 3)
	got := madeOf(t, m)
	if k := got.Fns[0].Blocks[1].Term; len(k.Values) != 15000 || len(got.Fns[0].Blocks) != 5 {
		t.Error(len(k.Values), len(got.Fns[0].Blocks))
	}
	for n := range 4 {
		wantSame(t, m, got, []byte{byte(n)}, ends{})
	}
}

// P1: many tests one behind the other, each of which is known only when the one ahead of it is; and many copies of copies.
func TestChains(t *testing.T) {
	row := "1: i64; 2: bool; 3: (); bb0; _1 = 0; goto 1"
	const count = 150
	for k := range count {
		at := 2*k + 1
		row += "; bb" + strconv.Itoa(at) + "; _2 = copy _1 == " + strconv.Itoa(k) + "; if copy _2 " + strconv.Itoa(at+1) + " " + strconv.Itoa(2*count+1) + "; bb" + strconv.Itoa(at+1) + "; _1 = copy _1 + 1; goto " + strconv.Itoa(at+2)
	}
	row += "; bb; _3 = call print copy _1 -> " + strconv.Itoa(2*count+2) + "; bb; _0 = (); return"
	if got := madeOf(t, programOf(t, "main()", row)); rowOf(got, 0) != "bb0; _3 = call print "+strconv.Itoa(count)+" -> 1; bb1; _0 = (); return" {
		t.Error(rowOf(got, 0))
	}
	for of, kind := range map[string]int{"i64": api.OCopy, "Box<i64>": api.OMove} {
		m := programOf(t, "it(n: "+of+") -> "+of, "bb0; panic 103")
		f := &m.Fns[0]
		hand := func(to, from int) api.MStmt {
			return api.MStmt{Kind: api.MSet, Place: api.Place{Local: to}, R: api.Rvalue{Kind: api.RUse, Args: []api.Operand{{Kind: kind, Place: api.Place{Local: from}}}}}
		}
		for k := range mir.MaxTemps - 2 {
			f.Locals = append(f.Locals, api.Local{Type: of})
			f.Blocks[0].Stmts = append(f.Blocks[0].Stmts, hand(k+2, k+1))
		}
		f.Blocks[0].Stmts = append(f.Blocks[0].Stmts, hand(0, mir.MaxTemps-1))
		f.Blocks[0].Term = api.MTerm{Kind: api.TReturn}
		if got := madeOf(t, m); len(got.Fns[0].Blocks[0].Stmts) != 1 || got.Fns[0].Blocks[0].Stmts[0].R.Args[0].Place.Local != 1 {
			t.Error(of, len(got.Fns[0].Blocks[0].Stmts))
		}
	}
}
