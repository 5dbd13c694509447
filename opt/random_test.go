package opt

import (
	"math/rand"
	"strconv"
	"testing"

	"patina/api"
	"patina/build"
	"patina/check"
	"patina/drops"
	"patina/loans"
	"patina/mir"
	"patina/mirtest"
	"patina/moves"
	"patina/parse"
	"patina/sourcetest"
)

// wantShorter holds Make of a program to 25.1 and 25.2, with some inputs; moves that are right stay so, and what is made again is the same.
func wantShorter(t *testing.T, m api.Mir, count ends, inputs ...[]byte) {
	t.Helper()
	got := madeOf(t, m)
	for _, in := range inputs {
		wantSame(t, m, got, in, count)
	}
	if moves.Check(m).Code == api.OK && moves.Check(got).Code != api.OK {
		t.Fatalf("%v\n%s\nof\n%s", moves.Check(got), textOf(got), textOf(m))
	}
	if again := madeOf(t, got); !mir.Same(again, got) {
		t.Fatalf("again\n%s\nof\n%s\nof\n%s", textOf(again), textOf(got), textOf(m))
	}
}

// wantEnds holds counts to least ones.
func wantEnds(t *testing.T, count ends, least int) {
	t.Helper()
	for _, end := range [][2]int{{api.EndDone, api.ExitDone}, {api.EndDone, api.ExitOverflow}, {api.EndDone, api.ExitPanic}, {api.EndFuel, 0}} {
		if count[end] < least {
			t.Error("seldom:", count)
		}
	}
}

// 25.1, 25.2: MIR that is made at random and right, as it is, and with right moves, and with drops made definite.
func TestMade(t *testing.T) {
	r := rand.New(rand.NewSource(251))
	count := ends{}
	for k := range 900 {
		mk := &mirtest.Maker{Choose: r.Intn, Plain: k%5 == 0, Onward: k%4 > 0}
		m := mk.Program()
		if k%3 > 0 {
			mk.Repair(m, moves.Check)
		}
		wantShorter(t, m, count, []byte("\x00\x01\x02A\xff")[:r.Intn(6)])
		if made, e := drops.Make(m); e == api.OK && k%3 == 1 {
			wantShorter(t, made, count, nil)
		}
	}
	wantEnds(t, count, 15)
}

// 25.1, 25.2: MIR of what is copied alone, of which more comes to an end, and which has more to fold.
func TestCopied(t *testing.T) {
	r := rand.New(rand.NewSource(252))
	count := ends{}
	for k := range 2500 {
		mk := &mirtest.Maker{Choose: r.Intn, Copied: true, Onward: k%5 > 0}
		wantShorter(t, mk.Program(), count, inputs()[r.Intn(5)])
	}
	wantEnds(t, count, 30)
}

// 25.1, 25.2: what build makes of sources, and drops of that, taken or not.
func TestSources(t *testing.T) {
	r := rand.New(rand.NewSource(253))
	count := ends{}
	taken := 0
	for k := range 400 {
		tree, _ := parse.Parse((&sourcetest.Maker{Choose: r.Intn, Plain: k%10 == 0}).Source(r.Intn(3)))
		u, d := check.Of(tree)
		m, e := build.Of(u)
		if d.Code != api.OK || e.Code != api.OK {
			t.Fatal(d, e)
		}
		wantShorter(t, m, count, inputs()[r.Intn(5)])
		made, g := drops.Make(m)
		if g != api.OK {
			continue
		}
		wantShorter(t, made, count, inputs()[r.Intn(5)])
		if moves.Check(m).Code == api.OK && loans.Check(made).Code == api.OK {
			taken++
		}
	}
	wantEnds(t, count, 5)
	if taken < 15 || count[[2]int{api.EndDone, api.ExitDone}] < 100 {
		t.Error("seldom:", count, taken)
	}
}

// tangle is a row of blocks with few statements and many ways, behind what it reads.
func tangle(choose func(n int) int) string {
	row := "1: i64; 2: bool; 3: bool; 4: (); 5: i64; 6: i64; bb0; _1 = call read -> 1; bb1; _5 = call read -> 2; bb2; _6 = call read -> 3; bb3; _2 = copy _1 == 1; _3 = copy _5 == copy _6; goto 4"
	n := 6 + choose(9)
	one := func(of ...string) string { return of[choose(len(of))] }
	to := func() string { return " " + strconv.Itoa(max(choose(n), choose(n))) }
	for b := 4; b < n; b++ {
		row += "; bb" + strconv.Itoa(b) + "; "
		if choose(3) == 0 {
			row += one("_2 = copy _1 == 1", "_3 = not copy _2", "_3 = copy _2", "_1 = 2", "_6 = copy _1", "_2 = true", "_5 = 0", "_6 = copy _6 + copy _5", "_1 = copy _6", "_3 = copy _1 < copy _5") + "; "
		}
		switch choose(6) {
		case 0:
			row += "goto" + to()
		case 1:
			row += "if copy " + one("_2", "_3") + to() + to()
		case 2, 3:
			row += "switch copy " + one("_1", "_1", "_1", "_5")
			for n := range 4 {
				if choose(3) == 0 {
					row += " " + strconv.Itoa(n) + to()
				}
			}
			row += to()
		case 4:
			row += one("_4 = call print copy _1 ->", "_4 = call print copy _6 ->", "_1 = call read ->", "_5 = call read ->") + to()
		case 5:
			row += one("return", "panic 103")
		}
	}
	return row
}

// 25.1, 25.2: tests and rings of all shapes.
func TestTangles(t *testing.T) {
	r := rand.New(rand.NewSource(254))
	count := ends{}
	for range 500 {
		wantShorter(t, programOf(t, "main()", tangle(r.Intn)), count, []byte("\x00\x01\x02\x03\x02\x01\x00\x01\x01")[:r.Intn(10)])
	}
	for _, end := range [][2]int{{api.EndDone, api.ExitDone}, {api.EndDone, api.ExitPanic}, {api.EndFuel, 0}} {
		if count[end] < 50 {
			t.Error("seldom:", count)
		}
	}
}
