package isel

import (
	"math/rand"
	"testing"

	"patina/api"
	"patina/build"
	"patina/check"
	"patina/drops"
	"patina/loans"
	"patina/mirtest"
	"patina/moves"
	"patina/opt"
	"patina/parse"
	"patina/sourcetest"
)

// inputs are some that are read.
func inputs() [][]byte { return [][]byte{nil, {0}, {1}, {2, 0}, {65, 66, 1, 0}} }

// ends counts how runs ended.
type ends map[int]int

// tryAll holds what is made of a program, and of what opt makes of it, to what it does.
func tryAll(t *testing.T, r *rand.Rand, m api.Mir, count ends) {
	t.Helper()
	in := inputs()[r.Intn(5)]
	l := madeOf(t, m)
	at := ran(t, m, l, in)
	count[at]++
	if at != same {
		return
	}
	made, e := opt.Make(m)
	if e != api.OK || ran(t, m, madeOf(t, made), in) != same {
		t.Fatal(e)
	}
	switch r.Intn(8) {
	case 0:
		full := crowded(m)
		if at := ran(t, m, madeOf(t, full), in); at != same && at != manyCall {
			t.Fatal(at)
		}
	case 1:
		one, fits := newProgram(m, true).functions()
		if !fits || ran(t, m, one, in) != same {
			t.Fatal(fits)
		}
	}
}

// 26.1, P7: MIR that is made at random: wherever a run of it ends, so does one of what is made, be its drops definite or not.
func TestMade(t *testing.T) {
	r := rand.New(rand.NewSource(264))
	count := ends{}
	for k := range 1500 {
		mk := &mirtest.Maker{Choose: r.Intn, Plain: k%5 == 0, Copied: k%7 == 0, Onward: k%4 > 0}
		m := mk.Program()
		if k%3 == 0 {
			mk.Repair(m, moves.Check)
			if made, e := drops.Make(m); e == api.OK {
				tryAll(t, r, made, count)
			}
		}
		tryAll(t, r, m, count)
	}
	if count[same] < 400 {
		t.Error("seldom:", count)
	}
}

// 26.1, P7: what build makes of sources, and drops of that, taken or not.
func TestSources(t *testing.T) {
	r := rand.New(rand.NewSource(265))
	count := ends{}
	taken := 0
	for k := range 500 {
		tree, _ := parse.Parse((&sourcetest.Maker{Choose: r.Intn, Plain: k%10 == 0}).Source(r.Intn(3)))
		u, d := check.Of(tree)
		m, e := build.Of(u)
		if d.Code != api.OK || e.Code != api.OK {
			t.Fatal(d, e)
		}
		tryAll(t, r, m, count)
		made, g := drops.Make(m)
		if g != api.OK {
			continue
		}
		tryAll(t, r, made, count)
		if moves.Check(m).Code == api.OK && loans.Check(made).Code == api.OK {
			taken++
		}
	}
	if count[same] < 400 || taken < 15 {
		t.Error("seldom:", count, taken)
	}
}
