package moves

import (
	"strings"
	"testing"

	"patina/api"
)

// wantChecks holds rows to what is wrong with them: the statement or end that is marked with ! is ErrMoved, with ? ErrMoveOut; without a mark nothing is wrong.
func wantChecks(t *testing.T, rows ...string) {
	t.Helper()
	for _, row := range rows {
		m, at := rowOf(t, row)
		want := api.Diag{}
		if at >= 0 {
			want = api.Diag{Code: api.ErrMoved, From: at, To: at + 1}
		}
		if strings.Contains(row, "?") {
			want.Code = api.ErrMoveOut
		}
		if d := Check(m); d != want {
			t.Errorf("%s: %v, not %v", row, d, want)
		}
		if d := modelCheck(m); d != want {
			t.Errorf("%s: the model says %v, not %v", row, d, want)
		}
	}
}

// 22.1: what is there may be used in each way.
func TestNothingWrong(t *testing.T) {
	wantChecks(t,
		"_7 = move _1", "_7 = move _1; _1 = box 2; _17 = move _1", "_7 = move _1; _1 = move _7; _1 = move _1; _7 = move _1",
		"_7 = move _2.0; _17 = move _2.1", "_7 = move _2.0; _10 = copy _2.1.*", "_7 = move _2.0; _2.0 = move _7; _8 = move _2", "_7 = move _2.0; _2.0 = box 1; _2.0.* = 3; _8 = move _2", "_7 = move _2.0; _2.1 = box 2; _17 = move _2.1", "_8 = move _2; _2 = move _8; _2.0 = box 1; _8 = move _2",
		"_8 = move _6.*; _6.* = move _8; _15 = move _6", "_7 = move _6.*.0; _17 = move _6.*.1; drop _6", "_7 = move _6.*.0; _6.* = call give; _15 = move _6", "_7 = move _6.*.0; _6.*.0 = box 3; _8 = move _6.*",
		"_12 = move _3.@2; _3.@2 = move _12; _9 = move _3", "_7 = move _3.@2.1; _10 = copy _3.@2.0", "_7 = move _3.@2.1; _3.@2.1 = move _7; _10 = tag _3", "_12 = move _3.@2; _10 = copy _3.@1",
		"_7 = box 1; _18 = box move _7; _7 = move _18.*; _18.* = box 3; _17 = move _18.*",
		"_13 = ref _1.*; _14 = mut _2.0; _10 = tag _3; _16 = ref _2; _25 = copy _4; _10 = copy _4.*.*; _13 = ref _4.*.*; _14 = mut _5.*.0; _14 = move _14; _21 = ref _3; _10 = tag _21.*; _22 = mut _3; _10 = copy _22.*.@1; _22.*.@1 = 7; _5.*.0 = box 1; _5.* = call give",
		"_10 = 1; _11 = copy _10 == copy _10; _10 = neg copy _10; _11 = not copy _11; _10 = copy _10; _23 = (); _23 = copy _23; _24 = make N; _24 = move _24",
		"_12 = make S copy _1.* move _1", "_0 = call early copy _1.* move _1", "_0 = call two move _2.0 move _2.1; _2.0 = box 1; _2.1 = box 2; _8 = move _2", "_7 = call id move _1; _17 = move _7", "_1 = call id move _1; _7 = move _1", "_2.0 = call id move _2.0; _8 = move _2", "_0 = call print copy _1.*; _10 = call read; _0 = call print copy _10", "_8 = call give; _8.0 = call id move _8.1",
		"panic 103", "_7 = move _1; panic 101",
	)
}

// 22.1: MDrop, MFree, MLive, MDead of what is gone are no fault; what they leave is gone.
func TestDropped(t *testing.T) {
	wantChecks(t,
		"drop _1; drop _1; free _1; dead _1; live _1; _1 = box 1; _7 = move _1", "drop _7; free _7; live _7; dead _7", "drop _2.0; drop _2; free _2.0; drop _2.1; live _2; drop _2.0", "drop _8.0; drop _3.@2; drop _3.@2.1; drop _9; drop _6.*.0; free _6; drop _6; drop _5.*; drop _4.*; free _4.*",
		"drop _1; !_7 = move _1", "free _1; !_7 = move _1", "dead _1; !_7 = move _1", "live _1; !_7 = move _1", "drop _2; !_7 = move _2.0", "drop _2.0; !_8 = move _2", "drop _2.0; _7 = move _2.1; !_17 = move _2.0", "free _2.1; !_8 = move _2", "free _6; !_10 = copy _6.*.0.*", "free _6; !_6.*.0 = box 1", "drop _6.*; !_15 = move _6", "drop _6.*; _6.* = call give; _15 = move _6", "live _2; !_2.0 = box 1", "dead _10; _10 = 1; _10 = copy _10; dead _10; !_10 = copy _10", "drop _3; !_10 = tag _3", "drop _3.@2; !_10 = tag _3", "dead _0; !return", "live _0; !return", "dead _4; !_25 = copy _4",
	)
}

// 22.1: what is gone is not used, nor what has a gone part, nor what is within something that is gone.
func TestMoved(t *testing.T) {
	wantChecks(t,
		"_7 = move _1; !_17 = move _1", "_7 = move _1; !_10 = copy _1.*", "_7 = move _1; !_13 = ref _1.*", "_7 = move _1; !_13 = ref _1.*; _14 = mut _1", "_7 = move _1; !_14 = mut _1", "_7 = move _1; !_25 = ref _1", "_9 = move _3; !_10 = tag _3", "_9 = move _3; !_21 = ref _3", "_15 = move _6; !_7 = move _6.*.0", "_8 = move _2; !_7 = move _2.0", "_8 = move _2; !_10 = copy _2.0.*", "_8 = move _2; !_13 = ref _2.1.*", "_9 = move _3; !_10 = copy _3.@1", "_14 = mut _1; _14 = move _14; _7 = move _1; !_14 = mut _1",
		"_7 = move _2.0; !_8 = move _2", "_7 = move _2.0; !_16 = ref _2", "_7 = move _2.1; !_8 = move _2", "_7 = move _3.@2.1; !_10 = tag _3", "_12 = move _3.@2; !_9 = move _3", "_12 = move _3.@2; !_21 = ref _3", "_12 = move _3.@2; !_22 = mut _3", "_7 = move _3.@2.1; !_12 = move _3.@2", "_8 = move _6.*; !_15 = move _6", "_7 = move _6.*.0; !_15 = move _6", "_7 = move _6.*.0; !_8 = move _6.*", "_7 = move _6.*.0; !_16 = ref _6.*", "drop _4.*; !_25 = copy _4", "drop _4.*; !_25 = ref _4.*", "_7 = move _2.0; _2.0 = move _7; _7 = move _2.1; !_8 = move _2",
		"!_17 = move _7", "!_10 = copy _10", "!_11 = copy _10 == 1", "!_11 = 1 == copy _10", "!_10 = neg copy _10", "!_11 = not copy _11", "!_18 = box move _7", "!_12 = make S copy _10 move _1", "!_12 = make S 1 move _7", "!_9 = pick E 1 copy _10", "!_9 = pick E 2 move _12", "!_13 = ref _10", "!_14 = mut _7", "!_10 = tag _9", "!_10 = copy _13.*", "!_23 = copy _23", "!_24 = move _24", "!_10 = tag _21.*",
		"!_8 = make D move _1 move _1", "!_0 = call two move _1 move _1", "!_0 = call late move _1 copy _1.*", "_0 = call late move _1 copy _2.0.*; !_7 = move _1", "!_0 = call two move _1 move _7", "!_0 = call two move _7 move _1", "!_0 = call print copy _10", "!_7 = call id move _7", "_0 = call early 1 move _1; !_7 = move _1", "!_8 = make D move _2.0 move _2.0",
		"!if copy _11 1 1; bb1", "!switch copy _10 1; bb1", "_7 = move _1; !switch copy _1.* 5 1 1; bb1", "_11 = true; if copy _11 1 1; bb1; _10 = 2; switch copy _10 2 2 2; bb2",
	)
}

// 22.1: what is set must lie in something that is there.
func TestSet(t *testing.T) {
	wantChecks(t,
		"_8 = move _2; !_2.0 = box 1", "_7 = move _2.0; !_2.0.* = 1", "!_8.0 = box 1", "!_7.* = 1", "_15 = move _6; !_6.*.0 = box 1", "_8 = move _6.*; !_6.*.0 = box 1", "_15 = move _6; !_6.* = make D move _1 move _7", "_12 = move _3.@2; !_3.@2.0 = 1", "_9 = move _3; !_3.@1 = 1", "_9 = move _3; !_3.@2.0 = 1", "!_12.0 = 1", "!_13.* = 1", "!_16.*.0 = box 1",
		"_8 = move _2; !_2.0 = call id move _1", "_15 = move _6; !_6.* = call give", "!_7.* = call read", "_7 = move _2.0; !_2.0.* = call read", "_7 = move _2.0; _2.0 = call id move _1; _8 = move _2", "_8 = move _6.*; _6.* = call give; _15 = move _6",
		"_19 = pick L 0; _20 = box move _19; !_20.* = pick L 1 move _20", "_19 = pick L 0; _20 = box move _19; _19 = pick L 1 move _20; !_19.@1.* = move _19", "_7 = move _6.*.0; _6.*.1 = box 2; !_8 = move _6.*", "_7 = move _2.0; _17 = move _2.1; _2.0 = box 1; !_8 = move _2", "_7 = move _2.0; _17 = move _2.1; _2.0 = box 1; _2.1 = box 1; _8 = move _2", "_8 = move _2; _2 = call give; _2.0 = box 2; _8 = move _2",
		"_8 = move _2; !_2.0 = box 1; _7 = move _2.0",
	)
}

// 22.1: nothing is moved out from behind a reference, which is told ahead of ErrMoved.
func TestMoveOut(t *testing.T) {
	wantChecks(t,
		"?_7 = move _4.*", "?_7 = move _5.*.0", "?_8 = move _5.*", "?_7 = move _16.*.0", "?_8 = move _16.*", "_22 = mut _3; ?_12 = move _22.*.@2", "_22 = mut _3; ?_7 = move _22.*.@2.1", "_21 = ref _3; ?_9 = move _21.*", "_14 = mut _1; ?_7 = move _14.*", "?_7 = call id move _4.*", "?_18 = box move _4.*", "?_12 = make S 1 move _5.*.1", "?_0 = call early copy _4.*.* move _4.*",
		"dead _4; ?_7 = move _4.*", "drop _5.*.0; ?_7 = move _5.*.0", "drop _5.*.0; ?_8 = move _5.*", "dead _5; ?_8 = make D move _5.*.0 move _5.*.1",
		"!_0 = call two move _7 move _4.*", "?_0 = call two move _4.* move _7", "?_0 = call two move _1 move _4.*", "!_8 = make D move _17 move _5.*.0", "?_8 = make D move _5.*.0 move _17", "_7 = move _1; !_17 = move _1; _7 = move _4.*", "_7 = move _1; ?_17 = move _4.*; _17 = move _1",
		"_25 = copy _4; _10 = copy _25.*.*; _13 = ref _25.*.*", "_14 = mut _5.*.1; drop _14.*; _14.* = box 1; drop _5.*; free _4.*", "_7 = box 1; _18 = box move _7; _7 = move _18.*",
	)
}
