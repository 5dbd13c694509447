package loans

import (
	"slices"
	"strconv"
	"strings"
	"testing"

	"patina/api"
)

// holdsText are the pairs that hold at points, of those that have any.
func holdsText(t *testing.T, m api.Mir) string {
	t.Helper()
	var texts []string
	model := modelOf(m.Items, m.Fns[0])
	for _, p := range model.points {
		l, e := Holds(m, 0, p[0], p[1])
		if e != api.OK || !slices.Equal(l, model.pairs(p)) {
			t.Errorf("%v: %s %v, not %s", p, pairsText(l), e, pairsText(model.pairs(p)))
		}
		if len(l) > 0 {
			texts = append(texts, strconv.Itoa(p[0])+"."+strconv.Itoa(p[1])+" "+pairsText(l))
		}
		wantAliveBy(t, m, p, l)
	}
	return strings.Join(texts, "; ")
}

// wantAliveBy holds the loans that are alive at a point to the pairs that hold there.
func wantAliveBy(t *testing.T, m api.Mir, p point, pairs [][2]int) {
	t.Helper()
	var want []int
	for _, pair := range pairs {
		want = append(want, pair[1])
	}
	slices.Sort(want)
	if l, e := Alive(m, 0, p[0], p[1]); e != api.OK || !slices.Equal(l, slices.Compact(want)) {
		t.Errorf("%v: alive %v %v, not %v", p, l, e, want)
	}
}

func wantHolds(t *testing.T, rows [][2]string) {
	t.Helper()
	for _, c := range rows {
		m, _ := rowOf(t, c[0])
		if got := holdsText(t, m); got != c[1] {
			t.Errorf("%s: %s, not %s", c[0], got, c[1])
		}
	}
}

// 24.3: a loan is held behind the point at which it is made, if its holder lives there.
func TestMadeLoans(t *testing.T) {
	wantHolds(t, [][2]string{
		{"_11 = ref _1; _10 = copy _11.*; panic 101", "0.1 11:0"}, {"_11 = ref _1; _10 = 1; _10 = copy _11.*; _10 = 2; panic 101", "0.1 11:0; 0.2 11:0"}, {"_11 = ref _1; panic 101", ""}, {"_11 = ref _1; _11 = copy _7; _10 = copy _11.*; panic 101", ""}, {"_0 = ref _1; return", "0.1 0:0"}, {"_0 = ref _1; panic 101", ""}, {"_11 = ref _1; _11 = ref _10; _10 = copy _11.*; panic 101", "0.2 11:1"}, {"_11 = ref _1; _12 = ref _1; _10 = copy _11.* + copy _12.*; panic 101", "0.1 11:0; 0.2 11:0 12:1"},
		{"_13 = mut _1; _13.* = 3; _10 = 1; _10 = copy _13.*; panic 101", "0.1 13:0; 0.2 13:0; 0.3 13:0"}, {"if copy _2 1 2; bb1; _11 = ref _1; goto 3; bb2; _11 = ref _10; goto 3; bb3; _10 = copy _11.*; panic 101", "1.1 11:0; 2.1 11:1; 3.0 11:0 11:1"}, {"_11 = ref _1; if copy _2 1 2; bb1; _10 = copy _11.*; panic 101; bb2; panic 102", "0.1 11:0; 1.0 11:0"},
		{"_14 = mut _14.*; _14.* = 2; panic 101", "0.1 14:0"}, {"_14 = mut _1; _14 = mut _14.*; _14.* = 2; panic 101", "0.1 14:0; 0.2 14:0 14:1"},
	})
}

// 24.3: it is held on, while the origin lives, is not set whole, and the loan is not killed.
func TestHeldOn(t *testing.T) {
	wantHolds(t, [][2]string{
		{"_11 = ref _10; goto 1; bb1; if copy _2 1 2; bb2; _10 = copy _11.*; panic 101", "0.1 11:0; 1.0 11:0; 2.0 11:0"}, {"_11 = ref _10; if copy _2 1 2; bb1; panic 101; bb2; if copy _2 3 3; bb3; _10 = copy _11.*; panic 101", "0.1 11:0; 2.0 11:0; 3.0 11:0"}, {"_11 = ref _10; drop _3; dead _10; _12 = copy _11; panic 101", "0.1 11:0; 0.2 11:0; 0.3 11:0"},
		{"_11 = ref _10; _10 = 1; _10 = copy _11.*; panic 101", "0.1 11:0"}, {"_11 = ref _10; live _10; _10 = copy _11.*; panic 101", "0.1 11:0"}, {"_11 = ref _10; _10 = call give -> 1; bb1; _10 = copy _11.*; panic 101", "0.1 11:0"}, {"_13 = mut _24.0.*; _24 = call made -> 1; bb1; _10 = copy _13.*; panic 101", "0.1 13:0"}, {"_13 = mut _24.0.*; _24.0 = box 1; _10 = copy _13.*; panic 101", "0.1 13:0; 0.2 13:0"},
		{"_11 = ref _10; _11 = copy _7; _10 = copy _11.*; panic 101", ""}, {"_11 = ref _10; _10 = copy _11.*; _11 = copy _7; _10 = copy _11.*; panic 101", "0.1 11:0"}, {"_11 = ref _10; _10 = copy _11.*; _11 = call first copy _7 copy _7 -> 1; bb1; _10 = copy _11.*; panic 101", "0.1 11:0"}, {"_13 = mut _1; _13.* = 2; live _13; dead _13; _10 = copy _13.*; panic 101", "0.1 13:0; 0.2 13:0; 0.3 13:0; 0.4 13:0"},
		{"_14 = mut _1; goto 1; bb1; _14 = mut _14.*; if copy _2 1 2; bb2; _14.* = 1; panic 101", "0.1 14:0; 1.0 14:0 14:1; 1.1 14:0 14:1; 2.0 14:0 14:1"}, {"_13 = mut _14.*; _14 = mut _1; _13.* = 1; panic 101", "0.1 13:0"},
	})
}

// 24.3: what an origin holds goes on to the one that gets it, unless it is killed there, or that one does not live.
func TestTakenOver(t *testing.T) {
	wantHolds(t, [][2]string{
		{"_11 = ref _1; _12 = copy _11; _10 = copy _12.*; panic 101", "0.1 11:0; 0.2 12:0"}, {"_11 = ref _1; _12 = copy _11; _10 = copy _12.* + copy _11.*; panic 101", "0.1 11:0; 0.2 11:0 12:0"}, {"_13 = mut _1; _14 = move _13; _14.* = 1; panic 101", "0.1 13:0; 0.2 14:0"}, {"_13 = mut _1; _14 = mut _13.*; _14.* = 1; _13.* = 2; panic 101", "0.1 13:0; 0.2 13:0 14:0 14:1; 0.3 13:0"}, {"_11 = ref _1; _12 = ref _11.*; _10 = copy _12.*; panic 101", "0.1 11:0; 0.2 12:0 12:1"},
		{"_11 = ref _1; _12 = copy _11; panic 101", "0.1 11:0"}, {"_11 = ref _1; _12 = copy _11; _12 = copy _7; _10 = copy _12.*; panic 101", "0.1 11:0"}, {"_11 = ref _1; _10 = copy _11.*; _12 = copy _7; _10 = copy _12.*; panic 101", "0.1 11:0"}, {"_11 = ref _1; _12 = copy _7; _10 = copy _12.*; _12 = copy _11; panic 101", "0.1 11:0; 0.2 11:0; 0.3 11:0"},
		{"_11 = ref _1; _12 = ref _10; _0 = call first copy _11 copy _12 -> 1; bb1; return", "0.1 11:0; 0.2 11:0 12:1; 1.0 0:0 0:1"}, {"_11 = ref _1; _12 = call first copy _7 copy _7 -> 1; bb1; _10 = copy _12.* + copy _11.*; panic 101", "0.1 11:0; 1.0 11:0"}, {"_16 = mut _4; _12 = call mixed 1 copy _17 move _3 move _16 -> 1; bb1; _10 = copy _12.*; panic 101", "0.1 16:0; 1.0 12:0"}, {"_11 = ref _1; _12 = call mixed copy _11.* copy _17 move _3 move _16 -> 1; bb1; _10 = copy _12.*; panic 101", "0.1 11:0; 1.0 12:0"}, {"_11 = ref _1; _10 = call give -> 1; bb1; _10 = copy _11.*; panic 101", "0.1 11:0; 1.0 11:0"},
		{"_14 = mut _1; _13 = mut _14.*; _14 = move _13; _14.* = 1; panic 101", "0.1 14:0; 0.2 13:0 13:1; 0.3 14:0"}, {"_11 = ref _7.*; _7 = copy _11; _10 = copy _7.*; panic 101", "0.1 11:0"}, {"_11 = ref _1; _12 = ref _10; goto 1; bb1; _30 = 1 < copy _11.*; _7 = copy _11; _11 = copy _12; _12 = copy _7; if copy _30 1 2; bb2; panic 101", "0.1 11:0; 0.2 11:0 12:1; 1.0 11:0 11:1 12:0 12:1; 1.1 11:0 11:1 12:0 12:1; 1.2 7:0 7:1 12:0 12:1; 1.3 7:0 7:1 11:0 11:1; 1.4 11:0 11:1 12:0 12:1"},
	})
}

// 24.3: loans that no way leads to are held behind their own points all the same.
func TestHeldWithoutAWay(t *testing.T) {
	wantHolds(t, [][2]string{
		{"panic 101; bb1; _11 = ref _1; _10 = copy _11.*; panic 101", "1.1 11:0"}, {"goto 2; bb1; _11 = ref _1; goto 2; bb2; _10 = copy _11.*; panic 101", "1.1 11:0; 2.0 11:0"}, {"_12 = ref _10; goto 2; bb1; _11 = copy _12; goto 2; bb2; _10 = copy _12.*; panic 101", "0.1 12:0; 2.0 12:0"},
	})
}

// 24.3: what lives at each point, as the facts have it, in blocks to which no way leads, too.
func TestLiveAtPoints(t *testing.T) {
	for row, want := range map[string]string{
		"_10 = copy _11.*; _12 = copy _7; return; bb1; _13.* = 1; _14 = move _13; return": "0 7 11|0 7|0|0 13|0 13|0", "panic 101; bb1; if copy _31.* 0 2; bb2; _10 = copy _7.*; goto 1": "|7 31|7 31|7 31", "_12 = copy _11; _10 = copy _12.*; panic 101": "11|12|",
	} {
		m, _ := rowOf(t, row)
		model := modelOf(m.Items, m.Fns[0])
		var texts []string
		for _, p := range model.points {
			l, e := Live(m, 0, p[0], p[1])
			if e != api.OK || !slices.Equal(l, model.liveAt(p)) {
				t.Error(row, p, l, e)
			}
			texts = append(texts, listText(l))
		}
		if got := strings.Join(texts, "|"); got != want {
			t.Errorf("%s: %s, not %s", row, got, want)
		}
	}
}
