package mirun

import (
	"math"
	"strconv"
	"testing"

	"patina/api"
)

// 21.1: each operand, with what it leaves behind.
func TestOperands(t *testing.T) {
	wantRows(t, []row{
		{"_1 = 5; print copy _1; print copy _1", done(0, "5\n5\n", 4)},
		{"_1 = -9223372036854775808; print copy _1; _1 = 9223372036854775807; print copy _1; print 0", done(0, "-9223372036854775808\n9223372036854775807\n0\n", 6)},
		{"_2 = true; _31 = copy _2; if copy _31 1 2; bb1; panic 101; bb2; panic 102", done(101, "", 4)},
		{"_2 = false; if copy _2 1 2; bb1; panic 101; bb2; panic 102", done(102, "", 3)},
		{"_30 = (); _0 = copy _30; _30 = copy _0", done(0, "", 4)},
		{"_30 = copy _30", done(0, "", 2)}, // () has no word that could be nothing
		{"_3 = box 5; _26 = move _3; print copy _26.*", done(0, "5\n", 4)},
		{"_3 = box 5; _26 = move _3; print copy _3.*", undefined("", 3)},
		{"_3 = box 5; _26 = move _3; _3 = move _26; print copy _3.*", done(0, "5\n", 5)},
		{"_3 = box 5; _4 = make S 7 move _3; print copy _4.0; print copy _4.1.*; _10 = box move _4; print copy _10.*.0; print copy _10.*.1.*", done(0, "7\n5\n7\n5\n", 8)},
		{"_3 = box 5; _4 = make S 7 move _3; _3 = move _4.1; print copy _4.0; print copy _3.*", done(0, "7\n5\n", 6)},
		{"_3 = box 5; _4 = make S 7 move _3; _3 = move _4.1; print copy _4.1.*", undefined("", 4)},
		{"_3 = box 5; _4 = make S 7 move _3; _10 = box move _4; print copy _4.0", undefined("", 4)}, // all words go, numbers too
		{"_11 = make N; _24 = box move _11; _11 = move _24.*; _24 = box move _11", done(0, "", 5)},
		{"_24 = box move _11; _11 = move _24.*; _11 = move _24.*", done(0, "", 4)}, // a value without words is always there
		{"_1 = 3; _13 = ref _1; _13 = copy _13; print copy _13.*; print copy _13.*", done(0, "3\n3\n", 6)},
		{"_1 = 3; _14 = mut _1; _14 = move _14; _14.* = 4; print copy _1", done(0, "4\n", 6)},
		{"_7 = pick E 1 5; _8 = ref _7; print copy _8.*.@1", done(0, "5\n", 4)},
	})
}

// 21.1: what is nothing can not be read, taken or used, as an operand of anything.
func TestNothing(t *testing.T) {
	for _, line := range []string{
		"_1 = copy _20", "_2 = copy _31", "_3 = move _26", "_4 = move _4", "_4.1 = move _3", "_5 = copy _5", "_6 = move _6", "_7 = move _7", "_9 = move _9", "_12 = move _12", "_16 = move _16", "_17 = move _18", "_19 = move _19",
		"_1 = copy _1 + 1", "_1 = 1 + copy _1", "_1 = copy _20 / 0", "_1 = 1 % copy _20", "_2 = copy _1 == copy _1", "_2 = true != copy _31", "_1 = neg copy _1", "_2 = not copy _2", "_15 = box move _3", "_3 = box copy _1", "_4 = make S copy _1 move _3", "_4 = make S 1 move _3", "_7 = pick E 1 copy _1", "_7 = pick E 2 move _4",
		"_1 = tag _7", "_1 = tag _8.*", "_1 = tag _9.1", "_1 = copy _4.0", "_3 = move _4.1", "_1 = copy _9.0.0",
		"_1 = copy _3.*", "_3.* = 1", "_23.* = ()", "_24.* = make N", "_0 = copy _23.*", "_1 = copy _5.*.0", "_5 = ref _6.*", "_13 = ref _3.*", "_25 = ref _23.*", "_1 = copy _4.1.*", "_15.*.* = 1", "drop _15.*", "drop _6.*", "free _15.*", "drop _10.*.1",
		"_1 = copy _7.@1", "_7.@1 = 3", "_4 = move _7.@2", "drop _7.@2", "_7.@2.0 = 1", "_13 = ref _7.@1", "_1 = copy _8.*.@1", "free _17.@1",
		"free _3", "free _4.1", "free _15",
		"print copy _1", "if copy _2 1 1; bb1", "switch copy _1 1 1 1; bb1", "_3 = call id move _3", "_1 = call two 1 copy _20", "_1 = call two copy _20 1", "_5 = call f 1 copy _5 move _10",
	} {
		wantRun(t, line, rowOf(t, line), "", undefined("", 1))
	}
	wantRows(t, []row{
		{"_9.0.0 = 1; _1 = copy _9.0.0; _4 = move _9.0", undefined("", 3)},
		{"_3 = box 1; _9.0.1 = move _3; _4 = move _9.0", undefined("", 3)},
		{"_3 = box 1; _9.0.1 = move _3; _9.0.0 = 2; _4 = move _9.0; print copy _4.0", done(0, "2\n", 6)},
		{"_3 = box 1; _4 = make S 2 move _3; _7 = pick E 2 move _4; drop _7.@2.1; _1 = copy _7.@2.0; _1 = tag _7; _4 = move _7.@2", undefined("", 8)},
		{"_3 = box 1; _4 = make S 2 move _3; _7 = pick E 2 move _4; drop _7.@2.1; _7 = move _7", undefined("", 6)},
		{"_3 = box 1; _4 = make S 2 move _3; _7 = pick E 2 move _4; _4 = move _7.@2; _1 = tag _7; print copy _1; _7 = move _7", undefined("2\n", 7)},
	})
}

// 21.1: each rvalue.
func TestRvalues(t *testing.T) {
	wantRows(t, []row{
		{"_1 = 2 + 3; print copy _1; _1 = 2 - 3; print copy _1; _1 = 2 * 3; print copy _1; _1 = 7 / 2; print copy _1; _1 = 7 % 2; print copy _1", done(0, "5\n-1\n6\n3\n1\n", 11)},
		{"_1 = -7 / 2; print copy _1; _1 = -7 % 2; print copy _1; _1 = 7 / -2; print copy _1; _1 = 7 % -2; print copy _1", done(0, "-3\n-1\n-3\n1\n", 9)},
		{"_1 = neg 5; print copy _1; _1 = neg copy _1; print copy _1; _1 = neg 0; print copy _1", done(0, "-5\n5\n0\n", 7)},
		{"_2 = not true; if copy _2 1 2; bb1; panic 101; bb2; panic 102", done(102, "", 3)},
		{"_2 = not false; if copy _2 1 2; bb1; panic 101; bb2; panic 102", done(101, "", 3)},
		{"_2 = not true; _2 = copy _2 == false; _2 = not copy _2; if copy _2 1 2; bb1; panic 101; bb2; panic 102", done(102, "", 5)},
		{"_1 = 3; _13 = ref _1; _1 = 4; print copy _13.*", done(0, "4\n", 5)},
		{"_1 = 3; _14 = mut _1; _14.* = copy _14.* + 1; print copy _1", done(0, "4\n", 5)},
		{"_13 = ref _1; _14 = mut _1; _14.* = 5; print copy _13.*", done(0, "5\n", 5)}, // a reference to nothing is no fault
		{"_13 = ref _4.0; _4.0 = 8; print copy _13.*", done(0, "8\n", 4)},
		{"_25 = ref _30; _0 = copy _25.*; _23 = box (); _25 = ref _23.*; _0 = copy _25.*", done(0, "", 6)},
		{"_3 = box 5; _19 = mut _3; _19.* = box 6; print copy _3.*; _26 = move _19.*; print copy _3.*", undefined("6\n", 6)},
		{"_3 = box 5; _15 = box move _3; print copy _15.*.*; _3 = move _15.*; _3.* = 6; _15.* = move _3; print copy _15.*.*", done(0, "5\n6\n", 8)},
		{"_23 = box (); drop _23", done(0, "", 4)},
		{"_3 = box 5; _4 = make S 1 move _3; _6 = mut _4; _6.*.0 = 2; _6.*.1.* = 3; _5 = ref _6.*; print copy _5.*.0; print copy _5.*.1.*", done(0, "2\n3\n", 9)},
		{"_11 = make N", done(0, "", 2)},
		{"_7 = pick E 0; _1 = tag _7; print copy _1; _7 = pick E 1 4; _1 = tag _7; print copy _1; print copy _7.@1", done(0, "0\n1\n4\n", 8)},
		{"_3 = box 5; _4 = make S 6 move _3; _7 = pick E 2 move _4; print copy _7.@2.0; print copy _7.@2.1.*; _9.1 = move _7; _1 = tag _9.1; print copy _1", done(0, "6\n5\n2\n", 9)},
		{"_12 = pick L 0; _21 = box move _12; _12 = pick L 1 move _21; _1 = tag _12; print copy _1; _1 = tag _12.@1.*; print copy _1", done(0, "1\n0\n", 8)},
		{"_3 = box 1; _4 = make S 1 move _3; _12 = pick L 0; _21 = box move _12; _7 = pick E 1 9; _9 = make P move _4 move _7 () move _21; print copy _9.1.@1; print copy _9.0.1.*; _1 = tag _9.3.*; print copy _1", done(0, "9\n1\n0\n", 11)},
		{"_7 = pick E 1 4; _7 = pick E 0; print copy _7.@1", undefined("", 3)},
		{"_3 = box 5; _4 = make S 6 move _3; _7 = pick E 2 move _4; _7 = pick E 1 4; print copy _7.@2.0", undefined("", 5)},
	})
}

// 21.1: signs at the edges of 64 bits, and where they end the program.
func TestSigns(t *testing.T) {
	edges := []int64{math.MinInt64, math.MinInt64 + 1, -4294967297, -2, -1, 0, 1, 2, 3, 3037000499, 3037000500, 4294967296, math.MaxInt64 - 1, math.MaxInt64}
	text := func(n int64) string { return strconv.FormatInt(n, 10) }
	for _, a := range edges {
		wantModel(t, "_1 = neg "+text(a)+"; print copy _1")
		for _, b := range edges {
			for _, sign := range []string{"+", "-", "*", "/", "%"} {
				wantModel(t, "_1 = "+text(a)+" "+sign+" "+text(b)+"; print copy _1")
			}
			for _, sign := range []string{"<", "<=", ">", ">=", "==", "!="} {
				wantModel(t, "_2 = "+text(a)+" "+sign+" "+text(b)+"; if copy _2 1 2; bb1; panic 101; bb2; return")
			}
		}
	}
	for _, a := range []string{"true", "false"} {
		for _, b := range []string{"true", "false"} {
			wantModel(t, "_2 = "+a+" == "+b+"; if copy _2 1 2; bb1; panic 101; bb2; return")
			wantModel(t, "_2 = "+a+" != "+b+"; if copy _2 1 2; bb1; panic 101; bb2; return")
		}
	}
	wantRows(t, []row{
		{"_1 = 9223372036854775807 + 1", done(101, "", 1)}, {"_1 = -9223372036854775808 - 1", done(101, "", 1)}, {"_1 = 4294967296 * 2147483648", done(101, "", 1)}, {"_1 = neg -9223372036854775808", done(101, "", 1)}, {"_1 = -9223372036854775808 * -1", done(101, "", 1)}, {"_1 = -9223372036854775808 / -1", done(101, "", 1)}, {"_1 = -9223372036854775808 % -1", done(101, "", 1)},
		{"_1 = 1 / 0", done(102, "", 1)}, {"_1 = 1 % 0", done(102, "", 1)}, {"_1 = 0 / 0", done(102, "", 1)}, {"_1 = -9223372036854775808 / 0", done(102, "", 1)},
		{"_1 = -9223372036854775808 + 9223372036854775807; print copy _1; _1 = -9223372036854775808 / 1; print copy _1; _1 = 9223372036854775807 * -1; print copy _1; _1 = neg copy _1; print copy _1", done(0, "-1\n-9223372036854775808\n-9223372036854775807\n9223372036854775807\n", 9)},
		{"print 1; _1 = 1 / 0; print 2", done(102, "1\n", 2)},
	})
}

// wantModel holds a row to the model.
func wantModel(t *testing.T, lines string) {
	t.Helper()
	m := rowOf(t, lines)
	_, want := modelRun(m, "main", nil, nil, 1000)
	if o, e := Run(m, nil, 1000); e != api.OK || !sameOutcome(o, want) {
		t.Errorf("%s: %v %v, not %v", lines, e, o, want)
	}
}

// 21.1: each end of a block.
func TestEnds(t *testing.T) {
	wantRows(t, []row{
		{"return", done(0, "", 1)}, {"panic 101", done(101, "", 1)}, {"panic 102", done(102, "", 1)}, {"panic 103", done(103, "", 1)}, {"print 1; panic 103", done(103, "1\n", 2)},
		{"goto 2; bb1; panic 101; bb2; return", done(0, "", 2)}, {"goto 1; bb1; goto 2; bb2; goto 3; bb3; panic 103", done(103, "", 4)},
		{"if true 1 2; bb1; panic 101; bb2; panic 102", done(101, "", 2)}, {"if false 1 2; bb1; panic 101; bb2; panic 102", done(102, "", 2)}, {"if true 1 1; bb1; return", done(0, "", 2)},
		{"switch 5 1; bb1; panic 101", done(101, "", 2)}, {"switch 5 4 1 5 2 6 3 4; bb1; panic 101; bb2; panic 102; bb3; panic 103; bb4; return", done(102, "", 2)}, {"switch 4 4 1 5 2 6 3 4; bb1; panic 101; bb2; panic 102; bb3; panic 103; bb4; return", done(101, "", 2)}, {"switch 6 4 1 5 2 6 3 4; bb1; panic 101; bb2; panic 102; bb3; panic 103; bb4; return", done(103, "", 2)}, {"switch 7 4 1 5 2 6 3 4; bb1; panic 101; bb2; panic 102; bb3; panic 103; bb4; return", done(0, "", 2)},
		{"_1 = -9223372036854775808; switch copy _1 -9223372036854775808 1 -1 2 9223372036854775807 3 4; bb1; panic 101; bb2; panic 102; bb3; panic 103; bb4; return", done(101, "", 3)},
		{"_1 = 2; goto 1; bb1; _1 = copy _1 - 1; _0 = call print copy _1 -> 2; bb2; switch copy _1 0 3 1; bb3; return", done(0, "1\n0\n", 9)},
		{"print -5; _0 = call print 0", done(0, "-5\n0\n", 3)},
		{"_1 = call read; print copy _1; _1 = call read; print copy _1; _1 = call read; print copy _1; _1 = call read; print copy _1", done(0, "65\n66\n-1\n-1\n", 9)},
		{"_4.0 = call read; print copy _4.0; _3 = box 1; _3.* = call read; print copy _3.*", done(0, "65\n66\n", 6)},
		{"_3 = call g; print copy _3.*; _3 = call id move _3; print copy _3.*", done(0, "1\n1\n", 9)},
		{"_1 = call more 4; print copy _1; _20 = call two copy _1 7; print copy _20", done(0, "4\n5\n-2\n", 10)},
	})
	m := rowOf(t, "_1 = call read; print copy _1; _1 = call read; print copy _1")
	wantRun(t, "bytes", m, "\x00\xff", done(0, "0\n255\n", 5))
	wantRun(t, "a byte", m, "\n", done(0, "10\n-1\n", 5))
	wantRun(t, "no byte", m, "", done(0, "-1\n-1\n", 5))
}
