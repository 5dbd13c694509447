package opt

import (
	"math/rand"
	"testing"

	"patina/api"
	"patina/build"
	"patina/check"
	"patina/drops"
	"patina/loans"
	"patina/mir"
	"patina/mirtest"
	"patina/moves"
	"patina/parse"
	"patina/sourcetest"
)

// wantShorter holds Make of a program to 25.1 and 25.2, with some inputs; moves that are right stay so, and what is made again is the same.
func wantShorter(t *testing.T, m api.Mir, count ends, inputs ...[]byte) {
	t.Helper()
	got := madeOf(t, m)
	for _, in := range inputs {
		wantSame(t, m, got, in, count)
	}
	if moves.Check(m).Code == api.OK && moves.Check(got).Code != api.OK {
		t.Fatalf("%v\n%s\nof\n%s", moves.Check(got), textOf(got), textOf(m))
	}
	if again := madeOf(t, got); !mir.Same(again, got) {
		t.Fatalf("again\n%s\nof\n%s\nof\n%s", textOf(again), textOf(got), textOf(m))
	}
}

// wantEnds holds counts to least ones.
func wantEnds(t *testing.T, count ends, least int) {
	t.Helper()
	for _, end := range [][2]int{{api.EndDone, api.ExitDone}, {api.EndDone, api.ExitOverflow}, {api.EndDone, api.ExitPanic}, {api.EndFuel, 0}} {
		if count[end] < least {
			t.Error("seldom:", count)
		}
	}
}

// 25.1, 25.2: MIR that is made at random and right, as it is, and with right moves, and with drops made definite.
func TestMade(t *testing.T) {
	r := rand.New(rand.NewSource(251))
	count := ends{}
	for k := range 900 {
		mk := &mirtest.Maker{Choose: r.Intn, Plain: k%5 == 0, Onward: k%4 > 0}
		m := mk.Program()
		if k%3 > 0 {
			mk.Repair(m, moves.Check)
		}
		wantShorter(t, m, count, []byte("\x00\x01\x02A\xff")[:r.Intn(6)])
		if made, e := drops.Make(m); e == api.OK && k%3 == 1 {
			wantShorter(t, made, count, nil)
		}
	}
	wantEnds(t, count, 15)
}

// 25.1, 25.2: MIR of what is copied alone, of which more comes to an end, and which has more to fold.
func TestCopied(t *testing.T) {
	r := rand.New(rand.NewSource(252))
	count := ends{}
	for k := range 2500 {
		mk := &mirtest.Maker{Choose: r.Intn, Copied: true, Onward: k%5 > 0}
		wantShorter(t, mk.Program(), count, inputs()[r.Intn(5)])
	}
	wantEnds(t, count, 30)
}

// 25.1, 25.2: what build makes of sources, and drops of that, taken or not.
func TestSources(t *testing.T) {
	r := rand.New(rand.NewSource(253))
	count := ends{}
	taken := 0
	for k := range 400 {
		tree, _ := parse.Parse((&sourcetest.Maker{Choose: r.Intn, Plain: k%10 == 0}).Source(r.Intn(3)))
		u, d := check.Of(tree)
		m, e := build.Of(u)
		if d.Code != api.OK || e.Code != api.OK {
			t.Fatal(d, e)
		}
		wantShorter(t, m, count, inputs()[r.Intn(5)])
		made, g := drops.Make(m)
		if g != api.OK {
			continue
		}
		wantShorter(t, made, count, inputs()[r.Intn(5)])
		if moves.Check(m).Code == api.OK && loans.Check(made).Code == api.OK {
			taken++
		}
	}
	wantEnds(t, count, 5)
	if taken < 15 || count[[2]int{api.EndDone, api.ExitDone}] < 100 {
		t.Error("seldom:", count, taken)
	}
}
