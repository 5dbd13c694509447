package opt

import (
	"math"
	"strconv"
	"testing"

	"patina/api"
	"patina/mirtest"
)

// wantRuns holds what is made of mains to what they do, with all inputs.
func wantRuns(t *testing.T, rows []string) ends {
	t.Helper()
	count := ends{}
	for _, row := range rows {
		m := programOf(t, "main()", row)
		got := madeOf(t, m)
		for _, in := range inputs() {
			wantSame(t, m, got, in, count)
		}
	}
	return count
}

// 25.1: programs that go one way or the other, by what they read; what is printed ahead of a program's end, and in rings that never end, stays.
func TestRuns(t *testing.T) {
	count := wantRuns(t, []string{
		"1: i64; 2: bool; 3: (); bb0; _1 = call read -> 1; bb1; _2 = copy _1 == 65; if copy _2 2 3; bb2; _3 = call print copy _1 -> 0; bb3; _3 = call print 7 -> 4; bb4; _0 = (); return",
		"1: i64; 2: i64; 3: (); bb0; _2 = 5; _1 = call read -> 1; bb1; switch copy _1 -1 4 0 2 1 3 5; bb2; _2 = 6; goto 5; bb3; _2 = copy _2; goto 5; bb4; _2 = neg copy _1; goto 5; bb5; _3 = call print copy _2 -> 6; bb6; _0 = (); return",
		"1: i64; 2: i64; 3: (); bb0; _1 = call read -> 1; bb1; _3 = call print 10 -> 2; bb2; _2 = 10 / copy _1; _3 = call print copy _2 -> 3; bb3; _2 = 9223372036854775807 * copy _1; _3 = call print copy _2 -> 4; bb4; panic 103",
		"1: i64; 2: (); bb0; _1 = 0; goto 1; bb1; _2 = call print copy _1 -> 2; bb2; _1 = copy _1 + 4611686018427387904; goto 1",
		"1: (); bb0; goto 1; bb1; _1 = call print 1 -> 2; bb2; goto 3; bb3; goto 1", "1: i64; 2: (); bb0; _1 = call read -> 1; bb1; _2 = call print copy _1 -> 2; bb2; switch copy _1 -1 3 0; bb3; goto 3",
		"1: (); bb0; _1 = call print 4 -> 1; bb1; _1 = call main -> 2; bb2; _1 = call print 5 -> 3; bb3; _0 = (); return", "1: Box<i64>; 2: i64; 3: (); bb0; _1 = box 5; _2 = copy _1.*; drop _1; _3 = call print copy _2 -> 1; bb1; _1 = call give -> 2; bb2; _3 = call print copy _1.* -> 3; bb3; drop _1; _0 = (); return",
		"1: i64; 2: &mut i64; 3: (); 4: i64; bb0; _1 = 3; _4 = copy _1; _2 = mut _1; _3 = call put move _2 -> 1; bb1; _3 = call print copy _1 -> 2; bb2; _3 = call print copy _4 -> 3; bb3; _0 = (); return",
		"1: i64; 2: &i64; 3: (); 4: i64; bb0; _1 = 3; _2 = ref _1; _4 = copy _2.*; _1 = 4; _3 = call print copy _4 -> 1; bb1; _4 = call look copy _2 -> 2; bb2; _3 = call print copy _4 -> 3; bb3; _0 = (); return",
		"1: S; 2: Box<i64>; 3: i64; 4: (); bb0; _2 = box 1; _1 = make S 2 move _2; _3 = copy _1.0; _1.0 = 8; _2 = move _1.1; _1.1 = box 6; _4 = call print copy _3 -> 1; bb1; _4 = call print copy _2.* -> 2; bb2; drop _1; drop _2; _0 = (); return",
		"1: Box<i64>; 2: i64; 3: (); bb0; _1 = box 1; goto 1; bb1; _2 = call read -> 2; bb2; live _1; switch copy _2 -1 4 3; bb3; _1 = box copy _2; _3 = call print copy _1.* -> 5; bb5; drop _1; goto 1; bb4; drop _1; _0 = (); return",
		"1: Box<i64>; 2: &mut Box<i64>; 3: Box<i64>; 4: &i64; 5: (); bb0; _1 = box 5; _2 = mut _1; _4 = ref _1.*; _3 = move _1; drop _2.*; _5 = call print copy _4.* -> 1; bb1; _0 = (); return",
		"1: Box<i64>; 2: Box<i64>; 3: &i64; 4: (); bb0; _1 = box 5; _3 = ref _1.*; _2 = move _1; drop _1; _4 = call print copy _3.* -> 1; bb1; drop _2; _0 = (); return",
	})
	for _, end := range [][2]int{{api.EndDone, api.ExitDone}, {api.EndDone, api.ExitDivide}, {api.EndDone, api.ExitOverflow}, {api.EndDone, api.ExitPanic}, {api.EndFuel, 0}} {
		if count[end] == 0 {
			t.Error("never:", end)
		}
	}
	if count[[2]int{api.EndUndef, 0}] > 0 {
		t.Error(count)
	}
}

// 25.1: a truth that was set as a number, in another variant, is not true, is no false, and is not what it was taken for ahead of that.
func TestOtherTruths(t *testing.T) {
	tell := "; if copy _3 1 2; bb1; _4 = call print 1 -> 3; bb2; _4 = call print 2 -> 3; bb3; _5 = not copy _3; if copy _5 4 5; bb4; _4 = call print 3 -> 6; bb5; _4 = call print 4 -> 6; bb6; _5 = copy _3 == false; if copy _5 7 8; bb7; _4 = call print 5 -> 9; bb8; if copy _3 4 9; bb9; _0 = (); return"
	ahead := "1: X; 2: &bool; 3: bool; 4: (); 5: bool; bb0; _1 = pick X 1 true; _2 = ref _1.@1; "
	wantRuns(t, []string{
		ahead + "_3 = copy _2.*" + tell, ahead + "_1 = pick X 0 7; _3 = copy _2.*" + tell, ahead + "_1 = pick X 0 1; _3 = copy _2.*" + tell, ahead + "_1 = pick X 0 0; _3 = copy _2.*" + tell, ahead + "_3 = copy _2.*; _1 = pick X 0 -1" + tell,
	})
}

// 25.2: where no number can be taken for a truth, the other way of a test has a truth that is false.
func TestFalse(t *testing.T) {
	for types, want := range map[string]string{
		"": "bb0; if copy _1 1 2; bb1; _0 = true; return; bb2; _0 = false; return", "enum X { I(i64), T(bool) }": "bb0; if copy _1 1 2; bb1; _0 = true; return; bb2; _0 = copy _1; return",
	} {
		b := mirtest.Bench{Types: types, Helpers: [][2]string{{"main()", "bb0; _0 = (); return"}}}
		it, _ := b.Items("it(c: bool) -> bool")
		m, right := b.Program(it, mirtest.Lines("bb0; if copy _1 1 2; bb1; _0 = copy _1; return; bb2; _0 = copy _1; return"))
		if got := madeOf(t, m); !right || rowOf(got, 0) != want {
			t.Error(right, rowOf(got, 0))
		}
	}
}

// 25.1, 25.2: each operation of numbers at their edges, and of truths, folded, and where it can not be.
func TestOperations(t *testing.T) {
	numbers := []int64{0, 1, -1, 2, -2, 7, -7, 3037000500, 1 << 32, math.MaxInt64, math.MinInt64, math.MinInt64 + 1, math.MaxInt64 - 1}
	count := ends{}
	check := func(row string) {
		m := programOf(t, "main()", row)
		wantSame(t, m, madeOf(t, m), nil, count)
	}
	text := func(n int64) string { return strconv.FormatInt(n, 10) }
	for _, a := range numbers {
		check("1: i64; 2: (); bb0; _1 = neg " + text(a) + "; _2 = call print copy _1 -> 1; bb1; _0 = (); return")
		for _, b := range numbers {
			for _, op := range []string{"+", "-", "*", "/", "%"} {
				check("1: i64; 2: (); bb0; _1 = " + text(a) + " " + op + " " + text(b) + "; _2 = call print copy _1 -> 1; bb1; _0 = (); return")
				check("1: i64; 2: (); bb0; _1 = call two " + text(a) + " 0 -> 1; bb1; _1 = copy _1 " + op + " " + text(b) + "; _2 = call print copy _1 -> 2; bb2; _0 = (); return")
			}
			for _, op := range []string{"<", "<=", ">", ">=", "==", "!="} {
				check("1: bool; 2: (); bb0; _1 = " + text(a) + " " + op + " " + text(b) + "; if copy _1 1 2; bb1; _2 = call print 1 -> 2; bb2; _0 = (); return")
			}
		}
	}
	for _, a := range []string{"true", "false"} {
		check("1: bool; 2: (); bb0; _1 = not " + a + "; if copy _1 1 2; bb1; _2 = call print 1 -> 2; bb2; _0 = (); return")
		for _, b := range []string{"true", "false"} {
			for _, op := range []string{"==", "!="} {
				check("1: bool; 2: (); bb0; _1 = " + a + " " + op + " " + b + "; if copy _1 1 2; bb1; _2 = call print 1 -> 2; bb2; _0 = (); return")
			}
		}
	}
	if count[[2]int{api.EndDone, api.ExitOverflow}] < 250 || count[[2]int{api.EndDone, api.ExitDivide}] < 40 || count[[2]int{api.EndDone, api.ExitDone}] < 1500 {
		t.Error(count)
	}
}
