package mirun

import (
	"strconv"
	"testing"

	"patina/api"
)

// 21.1: objects of locals begin and end with MLive and MDead, as often as they stand.
func TestBeginsAndEnds(t *testing.T) {
	wantRows(t, []row{
		{"live _1; _1 = 1; print copy _1; dead _1", done(0, "1\n", 5)},
		{"_1 = 1; live _1; print copy _1", undefined("", 3)},
		{"_1 = 1; dead _1; print copy _1", undefined("", 3)},
		{"dead _1; _1 = 1", undefined("", 2)},
		{"dead _1; dead _1; live _1; _1 = 2; print copy _1; live _1; live _1; _1 = 3; print copy _1", done(0, "2\n3\n", 10)},
		{"_1 = 1; _13 = ref _1; live _1; _1 = 2; print copy _1; print copy _13.*", undefined("2\n", 6)},
		{"_1 = 1; _13 = ref _1; dead _1; live _1; _1 = 2; print copy _13.*", undefined("", 6)},
		{"_1 = 1; _13 = ref _1; dead _1; _13 = copy _13; print 9; print copy _13.*", undefined("9\n", 6)}, // a pointer itself may be used on
		{"_14 = mut _1; dead _1; _14.* = 3", undefined("", 3)},
		{"_14 = mut _1; live _1; _14.* = 3", undefined("", 3)},
		{"_1 = 1; _13 = ref _1; live _1; _1 = 2; _13 = ref _1; print copy _13.*; dead _1; print copy _13.*", undefined("2\n", 8)},
		{"live _1; _1 = 1; _13 = ref _1; live _20; _20 = 5; dead _20; print copy _13.*", done(0, "1\n", 8)},
		{"dead _30; _0 = copy _30", undefined("", 2)}, // an object that has ended is not read, if it has no words
		{"dead _30; _30 = ()", undefined("", 2)}, {"dead _0; print 1", undefined("1\n", 2)}, {"dead _0; return", undefined("", 2)}, {"dead _0; live _0; return", done(0, "", 3)},
		{"dead _11; _24 = box move _11", undefined("", 2)}, {"dead _3; drop _3", undefined("", 2)}, {"dead _4; drop _4.1", undefined("", 2)}, {"dead _7; drop _7", undefined("", 2)}, {"dead _3; free _3", undefined("", 2)}, {"dead _7; _1 = tag _7", undefined("", 2)},
		{"dead _1; _13 = ref _1", undefined("", 2)}, {"dead _4; _13 = ref _4.0", undefined("", 2)}, {"dead _4; _6 = mut _4", undefined("", 2)}, {"dead _30; _25 = ref _30", undefined("", 2)}, {"dead _3; _13 = ref _3.*", undefined("", 2)}, {"dead _7; _13 = ref _7.@1", undefined("", 2)}, {"dead _9; _1 = copy _9.0.0", undefined("", 2)},
		{"_3 = box 1; _13 = ref _3.*; live _3; print copy _13.*", done(0, "1\n", 5)}, // the block lives on
		{"_3 = box 1; _13 = ref _3.*; dead _3; print copy _13.*", done(0, "1\n", 5)},
		{"_3 = box 1; _29 = ref _3; print copy _29.*.*; dead _3; print copy _29.*.*", undefined("1\n", 5)},
		{"_4.0 = 1; _13 = ref _4.0; _14 = mut _4.0; _14.* = 2; print copy _13.*; live _4; print copy _13.*", undefined("2\n", 7)},
	})
}

// 21.1: what ends with a call, and where its answer goes.
func TestCalls(t *testing.T) {
	wantRows(t, []row{
		{"_13 = call lend 5; print 1; print copy _13.*", undefined("1\n", 5)}, {"_13 = call lend 5; _13 = copy _13", done(0, "", 5)},
		{"_14 = mut _1; _0 = call assign move _14 6; print copy _1", done(0, "6\n", 6)},
		{"_1 = call unset 1", undefined("", 2)}, {"_4 = call whole; _4 = call part move _4", undefined("", 9)}, {"_0 = call ended", undefined("", 3)}, {"_1 = call undef", undefined("", 2)},
		{"_3 = box 1; _0 = call free move _3", done(0, "", 5)}, {"_3 = box 1; _13 = ref _3.*; _0 = call free move _3; print copy _13.*", undefined("", 6)}, {"_3 = box 1; _13 = ref _3.*; _3 = call id move _3; print copy _13.*", done(0, "1\n", 7)}, {"_3 = box 1; _0 = call free move _3; _3 = call id move _3", undefined("", 5)},
		{"_4 = call whole; print copy _4.0; print copy _4.1.*; _10 = box move _4; _4 = call whole; _5 = ref _4; _5 = call f 1 copy _5 move _10; print copy _5.*.0", done(0, "1\n9\n1\n", 20)},
		{"_4 = call whole; _5 = ref _4; _10 = box move _4; _5 = call f 1 copy _5 move _10; print copy _5.*.0", undefined("", 13)}, // what was moved is nothing there
		{"_3 = call id move _3", undefined("", 1)}, {"print 1; _1 = call two 1 copy _20", undefined("1\n", 2)},
		{"print 1; _3.* = call more 7", undefined("1\n7\n", 5)}, // the place is found behind the call
		{"_3 = box 0; _3.* = call more 7; print copy _3.*", done(0, "7\n8\n", 7)},
		{"_26 = box 3; _3 = call id move _26; _26 = move _3; _3.* = call two 1 2", undefined("", 8)},
		{"_23.* = call print 4", undefined("4\n", 1)}, {"_23 = box (); _23.* = call print 4", done(0, "4\n", 3)}, {"_3.* = call read", undefined("", 1)},
		{"_0 = call stop 0", done(0, "", 4)}, {"_0 = call stop 1; print 1", done(101, "", 3)}, {"_0 = call stop 2; print 1", done(102, "", 3)}, {"print 5; _0 = call stop 3; print 1", done(103, "5\n", 4)},
		{"_1 = call down 0; print copy _1; _1 = call down 2; print copy _1", done(0, "7\n7\n", 23)},
		{"_1 = call reads; print copy _1; _1 = call read; print copy _1; _1 = call reads; print copy _1", done(0, "65\n66\n-1\n", 11)},
		{"_1 = call read -> 1; bb1; switch copy _1 65 2 3; bb2; _0 = call again -> 4; bb3; return; bb4; _0 = call print 1 -> 3", done(0, "1\n", 10)}, // main in another call of it
	})
}

// 21.1, 21.2: calls in one another up to MaxCalls, and one more. What is built in is no such call.
func TestMaxCalls(t *testing.T) {
	if MaxCalls != 1000 {
		t.Error(MaxCalls)
	}
	wantMost := func(what string, m api.Mir, fuel int, want api.Outcome) {
		t.Helper()
		if o, e := Run(m, nil, fuel); e != api.OK || !sameOutcome(o, want) {
			t.Errorf("%s with %d: %v %v, not %v", what, fuel, e, o, want)
		}
	}
	down := func(n int) api.Mir { return rowOf(t, "print 1; _1 = call down "+strconv.Itoa(n)+"; print copy _1") }
	all := 2 + 998*4 + 4 + 998 + 2
	wantMost("just enough calls", down(998), 1<<40, done(0, "1\n7\n", all))
	wantMost("just enough calls", down(998), all, done(0, "1\n7\n", all))
	wantMost("just enough calls", down(998), all-1, api.Outcome{End: api.EndFuel, Out: []byte("1\n7\n"), Steps: all - 1})
	for _, n := range []int{999, 1000, 5000} {
		for _, fuel := range []int{2 + 999*4, 1 << 40} {
			wantMost("a call too many", down(n), fuel, api.Outcome{End: api.EndFuel, Out: []byte("1\n"), Steps: 2 + 999*4})
		}
		wantMost("no fuel for it", down(n), 2+999*4-1, api.Outcome{End: api.EndFuel, Out: []byte("1\n"), Steps: 2 + 999*4 - 1})
	}
	wantMost("one behind the other", rowOf(t, "_1 = call down 998; _1 = call down 998; _1 = call down 998; print copy _1"), 1<<40, done(0, "7\n", 3*(1+998*4+4+998)+2))
	m := rowOf(t, "return")
	for n, want := range map[int64]api.Outcome{999: done(0, "5\n", 999*4+4+999), 1000: {End: api.EndFuel, Steps: 4000}} {
		if v, o, e := Call(m, functionOf(m, "tail"), []int64{n}, 1<<40); v != 0 || e != api.OK || !sameOutcome(o, want) {
			t.Errorf("tail %d: %d %v %v, not %v", n, v, o, e, want)
		}
	}
	for n, want := range map[int64]int64{999: 7, 1000: 0} {
		if v, o, e := Call(m, functionOf(m, "down"), []int64{n}, 1<<40); v != want || e != api.OK || (o.End == api.EndDone) != (n == 999) {
			t.Errorf("down %d: %d %v %v", n, v, o, e)
		}
	}
}
