package mirun

import (
	"math"
	"math/rand"
	"slices"
	"testing"

	"patina/api"
	"patina/mir"
	"patina/mirtest"
)

// wrongOnes are MIR that is not right.
func wrongOnes(m api.Mir) []api.Mir {
	change := func(f func(m *api.Mir)) api.Mir {
		x := m
		x.Fns = slices.Clone(m.Fns)
		x.Items.Fns = slices.Clone(m.Items.Fns)
		f(&x)
		return x
	}
	last := len(m.Fns) - 1
	return []api.Mir{
		{}, {Items: m.Items}, {Fns: m.Fns},
		change(func(x *api.Mir) { x.Fns = x.Fns[1:] }), change(func(x *api.Mir) { x.Items.Fns[last].Ret = "i64" }), change(func(x *api.Mir) { x.Fns[0].Blocks = nil }), change(func(x *api.Mir) { x.Fns[0].Locals = nil }),
		change(func(x *api.Mir) { x.Fns[last].Blocks = []api.MBlock{{Term: api.MTerm{Kind: api.TGoto, To: []int{1}}}} }),
	}
}

// 21.1: ErrMir; ErrLong; ErrArg; with zeros beside them.
func TestRunErrors(t *testing.T) {
	m := rowOf(t, "_1 = call read; print copy _1")
	long := make([]byte, api.MaxSource+1)
	for _, w := range wrongOnes(m) {
		for _, in := range [][]byte{nil, long} {
			for _, fuel := range []int{-1, 100} {
				if o, e := Run(w, in, fuel); e != api.ErrMir || !sameOutcome(o, api.Outcome{}) {
					t.Error(o, e)
				}
			}
		}
	}
	for _, c := range []struct {
		in   []byte
		fuel int
		e    api.Errno
		o    api.Outcome
	}{
		{long, -1, api.ErrLong, api.Outcome{}}, {long, 100, api.ErrLong, api.Outcome{}}, {long[1:], -1, api.ErrArg, api.Outcome{}}, {nil, -1, api.ErrArg, api.Outcome{}}, {nil, math.MinInt, api.ErrArg, api.Outcome{}},
		{long[1:], 100, api.OK, done(0, "0\n", 3)}, {nil, 100, api.OK, done(0, "-1\n", 3)}, {[]byte{}, 3, api.OK, done(0, "-1\n", 3)}, {nil, math.MaxInt, api.OK, done(0, "-1\n", 3)}, {nil, 2, api.OK, api.Outcome{End: api.EndFuel, Out: []byte("-1\n"), Steps: 2}}, {nil, 0, api.OK, api.Outcome{End: api.EndFuel}},
	} {
		if o, e := Run(m, c.in, c.fuel); e != c.e || !sameOutcome(o, c.o) {
			t.Errorf("%d bytes, %d: %v %v", len(c.in), c.fuel, o, e)
		}
	}
}

// 21.2: functions of all kinds, with numbers.
func TestCall(t *testing.T) {
	m := rowOf(t, "print 9; print 8")
	for _, c := range []struct {
		name string
		args []int64
		v    int64
		o    api.Outcome
	}{
		{"two", []int64{3, 10}, -7, done(0, "", 2)}, {"two", []int64{math.MaxInt64, -1}, 0, done(101, "", 1)}, {"six", []int64{7, 2, 3, 4, 5, 6}, 42, done(0, "", 2)}, {"more", []int64{4}, 5, done(0, "4\n", 3)}, {"more", []int64{math.MaxInt64}, 0, done(101, "9223372036854775807\n", 2)}, {"main", nil, 0, done(0, "9\n8\n", 3)}, {"main", []int64{}, 0, done(0, "9\n8\n", 3)}, {"reads", nil, -1, done(0, "", 2)}, {"down", []int64{1}, 7, done(0, "", 9)},
		{"stop", []int64{0}, 0, done(0, "", 2)}, {"stop", []int64{1}, 0, done(101, "", 2)}, {"stop", []int64{2}, 0, done(102, "", 2)}, {"stop", []int64{3}, 0, done(103, "", 2)}, {"stop", []int64{4}, 0, api.Outcome{End: api.EndFuel, Steps: 1000}}, {"undef", nil, 0, undefined("", 1)}, {"unset", []int64{1}, 0, undefined("", 1)}, {"ended", nil, 0, undefined("", 2)}, {"deep", []int64{3}, 0, done(0, "1\n2\n3\n", 3*6+3)}, {"again", nil, 0, done(0, "9\n8\n", 5)},
	} {
		v, o, e := Call(m, functionOf(m, c.name), c.args, 1000)
		if v != c.v || !sameOutcome(o, c.o) || e != api.OK {
			t.Errorf("%s %v: %d %v %v", c.name, c.args, v, o, e)
		}
		for fuel := range c.o.Steps {
			v, o, e := Call(m, functionOf(m, c.name), c.args, fuel)
			if v != 0 || o.End != api.EndFuel || o.Steps != fuel || e != api.OK {
				t.Errorf("%s %v with %d: %d %v %v", c.name, c.args, fuel, v, o, e)
			}
		}
	}
}

// 21.2: ErrMir; ErrNone; ErrArg; with zeros beside them.
func TestCallErrors(t *testing.T) {
	m := rowOf(t, "print 9")
	for _, w := range wrongOnes(m) {
		for _, f := range []int{-1, 0, 1000} {
			if v, o, e := Call(w, f, nil, -1); v != 0 || e != api.ErrMir || !sameOutcome(o, api.Outcome{}) {
				t.Error(v, o, e)
			}
		}
	}
	for _, f := range []int{-1, math.MinInt, len(m.Fns), math.MaxInt} {
		for _, fuel := range []int{-1, 9} {
			if v, o, e := Call(m, f, []int64{1}, fuel); v != 0 || e != api.ErrNone || !sameOutcome(o, api.Outcome{}) {
				t.Error(f, v, o, e)
			}
		}
	}
	for _, c := range []struct {
		name string
		args []int64
		fuel int
	}{
		{"two", []int64{1}, 9}, {"two", []int64{1, 2, 3}, 9}, {"two", nil, 9}, {"main", []int64{1}, 9}, {"six", []int64{1, 2, 3, 4, 5}, 9}, {"flag", []int64{1}, 9}, {"unit", []int64{1}, 9}, {"unit", nil, 9}, {"lent", []int64{1, 2}, 9}, {"late", []int64{1, 1}, 9}, {"id", []int64{1}, 9}, {"tells", nil, 9}, {"g", nil, 9}, {"whole", nil, 9}, {"lend", []int64{1}, 9},
		{"two", []int64{1, 2}, -1}, {"main", nil, -1}, {"main", nil, math.MinInt}, {"two", nil, -1}, {"tells", nil, -1},
	} {
		if v, o, e := Call(m, functionOf(m, c.name), c.args, c.fuel); v != 0 || e != api.ErrArg || !sameOutcome(o, api.Outcome{}) {
			t.Errorf("%s %v: %d %v %v", c.name, c.args, v, o, e)
		}
	}
}

// R3: what is handed in is not changed, and an answer is no part of it, or of another one.
func TestMemory(t *testing.T) {
	r := rand.New(rand.NewSource(212))
	for range 60 {
		m := (&mirtest.Maker{Choose: r.Intn}).Program()
		in := []byte("\x00\x01\x02")
		args := []int64{5, 6, 7}[:2]
		before := textOf(m)
		at := m.Fns[0].Blocks[0].Term.At
		a, _ := Run(m, in, 300)
		_, b, _ := Call(m, 2, args, 300)
		c, _ := Run(m, in, 300)
		if textOf(m) != before || m.Fns[0].Blocks[0].Term.At != at || string(in) != "\x00\x01\x02" || !slices.Equal(args[:3], []int64{5, 6, 7}) || mir.Check(m) != api.OK {
			t.Fatal("changed")
		}
		kept := slices.Clone(c.Out)
		for _, l := range [][]byte{a.Out, b.Out} {
			clear(l[:cap(l)])
		}
		if !slices.Equal(c.Out, kept) || string(in) != "\x00\x01\x02" {
			t.Fatal("shared")
		}
	}
}

// P1: MIR of any make.
func TestArbitrary(t *testing.T) {
	r := rand.New(rand.NewSource(213))
	right := 0
	for range 1500 {
		m := (&mirtest.Maker{Choose: r.Intn, Plain: r.Intn(3) == 0}).Program()
		for range 1 + r.Intn(3) {
			mirtest.Spoil(&m, r.Intn)
		}
		e := mir.Check(m)
		fuel := []int{-1, 0, 5, 200}[r.Intn(4)]
		o, g := Run(m, make([]byte, r.Intn(4)), fuel)
		f := r.Intn(9) - 2
		_, _, h := Call(m, f, make([]int64, r.Intn(4)), fuel)
		if e != api.OK && (g != e || h != e || !sameOutcome(o, api.Outcome{})) {
			t.Fatal(e, g, h, o)
		}
		if e == api.OK {
			right++
			if (g == api.OK) != (fuel >= 0) || (h == api.ErrNone) != (f < 0 || f >= len(m.Fns)) {
				t.Fatal(g, h)
			}
		}
	}
	if right < 100 {
		t.Error(right)
	}
}
