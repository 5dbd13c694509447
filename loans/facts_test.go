package loans

import (
	"testing"

	"patina/api"
)

// wantFacts holds one kind of facts of rows to what each row says.
func wantFacts(t *testing.T, kind string, rows [][2]string) {
	t.Helper()
	for _, c := range rows {
		m, _ := rowOf(t, c[0])
		f, e := Facts(m, 0)
		if got := factsText(f, kind); e != api.OK || got != c[1] {
			t.Errorf("%s of %s: %s %v, not %s", kind, c[0], got, e, c[1])
		}
		model := modelOf(m.Items, m.Fns[0])
		if got := factsText(model.facts(), kind); got != c[1] {
			t.Errorf("%s of %s: the model says %s, not %s", kind, c[0], got, c[1])
		}
		if got, want := factsText(f, ""), factsText(model.facts(), ""); got != want {
			t.Errorf("%s: %s, not %s", c[0], got, want)
		}
	}
}

// 24.2: loans are references that are made, block by block, with their places, points and holders.
func TestLoans(t *testing.T) {
	for row, want := range map[string]string{
		"_0 = ref _1":  "0.0 0 ref _1",
		"_13 = mut _1": "0.0 13 mut _1",
		"_10 = 1; _11 = ref _10; _13 = mut _10; _11 = copy _7; _14 = move _13; _18 = ref _3": "0.1 11 ref _10, 0.2 13 mut _10, 0.5 18 ref _3",
		"_11 = ref _7.*; _13 = mut _8.*.0.*; _14 = mut _14.*":                                "0.0 11 ref _7.*, 0.1 13 mut _8.*.0.*, 0.2 14 mut _14.*",
		"_11 = ref _5.@1; _17 = ref _5.@2; _11 = ref _5.@2.1.*; _17 = ref _9.1.@2":           "0.0 11 ref _5.@1, 0.1 17 ref _5.@2, 0.2 11 ref _5.@2.1.*, 0.3 17 ref _9.1.@2",
		"goto 2; bb1; _11 = ref _1; return; bb2; _12 = ref _1; goto 1; bb3; _13 = mut _1":    "1.0 11 ref _1, 2.0 12 ref _1, 3.0 13 mut _1",
		"_10 = tag _5; _10 = 1; drop _3; live _11; dead _11":                                 "",
		"_11 = call first copy _7 copy _7":                                                   "",
		"_11 = ref _1; _11 = ref _1; _11 = ref _1":                                           "0.0 11 ref _1, 0.1 11 ref _1, 0.2 11 ref _1",
	} {
		m, _ := rowOf(t, row)
		l, e := Loans(m, 0)
		if e != api.OK || loansText(l) != want || loansText(modelOf(m.Items, m.Fns[0]).loans) != want {
			t.Errorf("%s: %s %v, not %s", row, loansText(l), e, want)
		}
	}
}

// 24.2: loans that are issued, with their holders, where a way leads.
func TestIssued(t *testing.T) {
	wantFacts(t, "issued", [][2]string{
		{"_0 = ref _1", "0.0 0 0"}, {"_10 = 1; _13 = mut _10; _11 = ref _10; _11 = copy _7; _11 = ref _13.*", "0.1 13 0, 0.2 11 1, 0.4 11 2"},
		{"goto 2; bb1; _11 = ref _1; goto 2; bb2; _12 = ref _1; goto 4; bb3; _13 = mut _1; return; bb4; _31 = ref _2", "2.0 12 1, 4.0 31 3"},
		{"_10 = tag _5; _11 = copy _7; _14 = move _13; live _1; dead _2; drop _3; free _3", ""},
	})
}

// 24.2: edges lead from each point to the next one, and from an end to the first points of the blocks behind it, each once.
func TestEdges(t *testing.T) {
	wantFacts(t, "edges", [][2]string{
		{"return", ""}, {"_10 = 1; return", "0.0>0.1"}, {"_10 = 1; drop _3; live _1; panic 101", "0.0>0.1, 0.1>0.2, 0.2>0.3"}, {"goto 0", "0.0>0.0"}, {"_10 = 1; goto 1; bb1; _10 = 2; goto 0", "0.0>0.1, 0.1>1.0, 1.0>1.1, 1.1>0.0"},
		{"if copy _2 2 1; bb1; return; bb2; return", "0.0>1.0, 0.0>2.0"}, {"if copy _2 1 1; bb1; goto 1", "0.0>1.0, 1.0>1.0"}, {"switch 3 1 2 2 1 3 2 4 0 0; bb1; return; bb2; return", "0.0>0.0, 0.0>1.0, 0.0>2.0"}, {"_10 = call read -> 2; bb1; return; bb2; return; bb3; goto 1", "0.0>2.0"}, {"goto 2; bb1; _10 = 1; goto 2; bb2; return", "0.0>2.0"},
	})
}

// 24.2: an origin gets what another one holds by a copy, by a move, by lending on, and by calls; and not by what is no origin, nor what sets a part.
func TestSubsets(t *testing.T) {
	wantFacts(t, "subsets", [][2]string{
		{"_11 = copy _7", "0.0 7 11"}, {"_14 = move _13", "0.0 13 14"}, {"_11 = copy _11", "0.0 11 11"}, {"_0 = copy _12; _12 = copy _0", "0.0 12 0, 0.1 0 12"}, {"_10 = copy _7.*", ""}, {"_13.* = copy _7.*", ""}, {"_29 = move _25.*", ""}, {"_11 = copy _7; _11 = copy _12", "0.0 7 11, 0.1 12 11"},
		{"_11 = ref _7.*", "0.0 7 11"}, {"_13 = mut _14.*", "0.0 14 13"}, {"_14 = mut _14.*", "0.0 14 14"}, {"_11 = ref _13.*", "0.0 13 11"}, {"_13 = mut _8.*.0.*", "0.0 8 13"}, {"_11 = ref _16.*.1.*", "0.0 16 11"}, {"_17 = ref _22.*.@2", "0.0 22 17"}, {"_11 = ref _18.*.*", "0.0 18 11"}, {"_11 = ref _1", ""}, {"_13 = mut _1", ""}, {"_11 = ref _3.*", ""}, {"_13 = mut _28.*.0.*", ""}, {"_11 = ref _9.2.*.0.*", ""}, {"_10 = tag _21.*", ""}, {"_10 = tag _5", ""},
		{"_11 = call first copy _7 copy _12 -> 1; bb1; return", "0.0 7 11, 0.0 12 11"}, {"_11 = call first copy _12 copy _7 -> 1; bb1; return", "0.0 7 11, 0.0 12 11"}, {"_11 = call first copy _7 copy _7 -> 1; bb1; return", "0.0 7 11"}, {"_11 = call first copy _11 copy _7 -> 1; bb1; return", "0.0 7 11, 0.0 11 11"}, {"_14 = call keep move _13 -> 1; bb1; return", "0.0 13 14"}, {"_13 = call keep move _13 -> 1; bb1; return", "0.0 13 13"},
		{"_12 = call mixed copy _7.* copy _17 move _3 move _16 -> 1; bb1; return", "0.0 7 12, 0.0 16 12, 0.0 17 12"}, {"_12 = call mixed copy _1 copy _17 move _19.* move _16 -> 1; bb1; return", "0.0 16 12, 0.0 17 12, 0.0 19 12"}, {"_12 = call mixed 3 copy _17 move _3 move _8 -> 1; bb1; return", "0.0 8 12, 0.0 17 12"},
		{"_20 = call take move _19.* copy _7 -> 1; bb1; return", ""}, {"_10 = call give -> 1; bb1; return", ""}, {"_13.* = call give -> 1; bb1; return", ""}, {"_16.* = call made -> 1; bb1; return", ""}, {"_11 = call first copy _7 copy _7 -> 0; bb1; _11 = copy _12; return", "0.0 7 11"},
	})
}

// 24.2: the loans of a local's places are killed where all of it is set, or begins.
func TestKilled(t *testing.T) {
	const issue = "_11 = ref _10; _13 = mut _24.0.*; _12 = ref _24.1.*; _14 = mut _14.*; "
	wantFacts(t, "killed", [][2]string{
		{issue + "_10 = 1", "0.3 3, 0.4 0"}, {issue + "_24 = make D move _3 move _23", "0.3 3, 0.4 1, 0.4 2"}, {issue + "live _24", "0.3 3, 0.4 1, 0.4 2"}, {issue + "live _10; live _14", "0.3 3, 0.4 0, 0.5 3"}, {issue + "_14 = move _13", "0.3 3, 0.4 3"}, {issue + "_24 = call made -> 1; bb1; return", "0.3 3, 0.4 1, 0.4 2"}, {issue + "_10 = call give -> 1; bb1; return", "0.3 3, 0.4 0"}, {issue + "_14 = call keep move _13 -> 1; bb1; return", "0.3 3, 0.4 3"},
		{issue + "_24.0 = box 1; _24.1.* = 2; _14.* = 3; _24.0 = move _3", "0.3 3"}, {issue + "_24.0.* = call give -> 1; bb1; return", "0.3 3"}, {issue + "_14.* = call give -> 1; bb1; return", "0.3 3"}, {issue + "dead _10; dead _24; drop _24; drop _24.0; free _24.1; _10 = copy _24.0.*; _28 = box move _24; _10 = copy _14.*", "0.3 3, 0.9 0, 0.11 0"}, {issue + "_1 = 5; live _1; dead _14", "0.3 3"},
		{"goto 2; bb1; _11 = ref _10; _10 = 1; goto 2; bb2; _12 = ref _10; _10 = 2; return", "2.1 0, 2.1 1"}, {"_10 = 1; _11 = ref _10; _10 = 2", "0.0 0, 0.2 0"},
	})
}

// 24.2: origins live from where all of them is set up to their uses.
func TestLive(t *testing.T) {
	wantFacts(t, "live", [][2]string{
		{"_10 = copy _11.*; panic 101", "0.0 11"}, {"_10 = 1; _12 = copy _11; panic 101", "0.0 11, 0.1 11"}, {"_14 = move _13; panic 101", "0.0 13"}, {"_10 = copy _11.* + copy _12.*; panic 101", "0.0 11, 0.0 12"}, {"_12 = ref _11.*; panic 101", "0.0 11"}, {"_14 = mut _13.*; panic 101", "0.0 13"}, {"_10 = tag _21.*; panic 101", "0.0 21"}, {"_11 = ref _22.*.@1; panic 101", "0.0 22"}, {"_13.* = 1; panic 101", "0.0 13"}, {"_16.*.0 = box 1; panic 101", "0.0 16"}, {"drop _16.*; panic 101", "0.0 16"}, {"free _19.*; panic 101", "0.0 19"}, {"_30 = not copy _31.*; panic 101", "0.0 31"}, {"_29 = make S copy _7.* move _19.*; panic 101", "0.0 7, 0.0 19"}, {"_5 = pick E 1 copy _7.*; panic 101", "0.0 7"}, {"_23 = box copy _11.*; panic 101", "0.0 11"},
		{"return", "0.0 0"}, {"_10 = 1; return", "0.0 0, 0.1 0"}, {"_0 = copy _7; return", "0.0 7, 0.1 0"}, {"panic 101", ""}, {"goto 0", ""}, {"dead _11; live _12; dead _7; panic 101", ""}, {"_10 = copy _1; _10 = 3; drop _3; panic 103", ""},
		{"if copy _31.* 1 1; bb1; panic 101", "0.0 31"}, {"switch copy _7.* 1 1 1; bb1; panic 101", "0.0 7"}, {"_20 = call print copy _7.* -> 1; bb1; panic 101", "0.0 7"}, {"_12 = call first copy _7 copy _11 -> 1; bb1; panic 101", "0.0 7, 0.0 11"}, {"_13.* = call give -> 1; bb1; panic 101", "0.0 13"}, {"_12 = call mixed copy _7.* copy _17 move _3 move _8 -> 1; bb1; panic 101", "0.0 7, 0.0 8, 0.0 17"},
		{"_11 = ref _1; _10 = copy _11.*; panic 101", "0.1 11"}, {"_10 = copy _11.*; _11 = ref _1; panic 101", "0.0 11"}, {"_10 = 1; _11 = copy _11; _10 = copy _11.*; panic 101", "0.0 11, 0.1 11, 0.2 11"}, {"_10 = copy _11.*; _11 = copy _12; _10 = copy _11.*; panic 101", "0.0 11, 0.0 12, 0.1 12, 0.2 11"}, {"_13.* = 1; _13 = mut _1; _13.* = 2; panic 101", "0.0 13, 0.2 13"}, {"live _11; dead _11; _10 = copy _11.*; panic 101", "0.0 11, 0.1 11, 0.2 11"}, {"_11 = call first copy _7 copy _7 -> 1; bb1; _10 = copy _11.*; panic 101", "0.0 7, 1.0 11"}, {"_11 = call first copy _11 copy _7 -> 1; bb1; _10 = copy _11.*; panic 101", "0.0 7, 0.0 11, 1.0 11"},
		{"if copy _2 1 2; bb1; _10 = copy _11.*; panic 101; bb2; _11 = ref _1; _10 = copy _11.*; panic 101", "0.0 11, 1.0 11, 2.1 11"}, {"if copy _2 1 2; bb1; _11 = ref _1; goto 3; bb2; goto 3; bb3; _10 = copy _11.*; panic 101", "0.0 11, 1.1 11, 2.0 11, 3.0 11"}, {"_11 = ref _1; goto 1; bb1; if copy _2 2 3; bb2; _10 = copy _11.*; goto 1; bb3; panic 101", "0.1 11, 1.0 11, 2.0 11, 2.1 11"}, {"goto 1; bb1; _11 = ref _1; _10 = copy _11.*; goto 1", "1.1 11"}, {"goto 1; bb1; _10 = copy _11.*; _11 = ref _1; goto 1", "0.0 11, 1.0 11, 1.2 11"}, {"panic 101; bb1; _10 = copy _11.*; goto 0", ""},
	})
}
