package loans

import (
	"slices"
	"strings"
	"testing"

	"patina/api"
	"patina/lookup"
	"patina/mirtest"
)

// broken are a place, and steps that invalidate loans of it: those that are mut and those that are not, the mut ones alone, none.
type broken struct {
	place           string
	both, mut, none string
}

// lending is MIR in which a loan of a place is made, mut or not, ahead of a line.
func lending(t *testing.T, place, word, line string) api.Mir {
	t.Helper()
	b := bench()
	it, _ := b.Items(tested)
	p, _ := mirtest.Place(place)
	f, _ := mirtest.Function("fn it\n0: ()\n" + params + mirtest.Lines(others))
	inner, _ := lookup.New(it).At(f.Locals[p.Local].Type, p.Path)
	sign := "&"
	if word == "mut" {
		sign = "&mut "
	}
	text, _ := mirtest.Blocks("_32 = " + word + " " + place + "; " + line)
	return programOf(t, tested, mirtest.Lines(others+"; 32: "+sign+inner)+text)
}

// params are the parameters of the function that tests look at.
const params = "1: i64\n2: bool\n3: Box<i64>\n4: D\n5: E\n6: X\n"

func wantBroken(t *testing.T, rows []broken) {
	t.Helper()
	for _, c := range rows {
		for k, lines := range []string{c.both, c.mut, c.none} {
			for _, line := range strings.Split(lines, "; ") {
				if line == "" {
					continue
				}
				wantBrokenAt(t, c.place, "mut", line, k < 2)
				wantBrokenAt(t, c.place, "ref", line, k == 0)
			}
		}
	}
}

// wantBrokenAt holds a step to whether it invalidates a loan.
func wantBrokenAt(t *testing.T, place, word, line string, want bool) {
	t.Helper()
	m := lending(t, place, word, line)
	l, e := Against(m, 0, 0, 1)
	if e != api.OK || slices.Contains(l, 0) != want || len(l) > 1 {
		t.Errorf("%s %s, %s: %v %v", word, place, line, l, e)
	}
	if model := modelOf(m.Items, m.Fns[0]).against(point{0, 1}); !slices.Equal(model, l) {
		t.Errorf("%s %s, %s: the model says %v", word, place, line, model)
	}
}

// 24.3: copies and shared references of a place that meets that of a mut loan.
func TestReads(t *testing.T) {
	wantBroken(t, []broken{
		{"_1", "", "_10 = copy _1; _11 = ref _1; _30 = copy _1 < 2; _10 = 2 + copy _1; _10 = neg copy _1; _23 = box copy _1; _5 = pick E 1 copy _1; _29 = make S copy _1 move _3; switch copy _1 5 0 0; _20 = call print copy _1; _12 = call mixed copy _1 copy _17 move _3 move _8", "_10 = copy _10; _11 = ref _10; _10 = 1; _11 = copy _7; return; panic 101; if copy _2 0 0"},
		{"_4", "", "_15 = ref _4; _18 = ref _4.0; _11 = ref _4.1.*; _10 = copy _4.0.*", "_15 = ref _24; _18 = ref _24.0; _10 = copy _3.*; _10 = copy _28.*.0.*"},
		{"_4.0", "", "_15 = ref _4; _18 = ref _4.0; _11 = ref _4.0.*; _10 = copy _4.0.*", "_18 = ref _4.1; _10 = copy _4.1.*; _11 = ref _4.1.*; _18 = ref _24.0"},
		{"_4.0.*", "", "_15 = ref _4; _18 = ref _4.0; _11 = ref _4.0.*; _10 = copy _4.0.*", "_10 = copy _4.1.*; _18 = ref _4.1"},
		{"_28.*.1.*", "", "_15 = ref _28.*; _18 = ref _28.*.1; _10 = copy _28.*.1.*", "_10 = copy _28.*.0.*; _18 = ref _28.*.0"},
		{"_8.*", "", "_15 = ref _8.*; _18 = ref _8.*.0; _10 = copy _8.*.1.*", "_15 = ref _16.*; _15 = copy _15"},
		{"_8.*.0", "", "_15 = ref _8.*; _18 = ref _8.*.0; _10 = copy _8.*.0.*", "_18 = ref _8.*.1; _10 = copy _8.*.1.*"},
		{"_7.*", "", "_11 = copy _7; _10 = copy _7.*; _12 = ref _7.*", "_11 = copy _12; _10 = copy _11.*"},
		{"_5.@1", "", "_10 = copy _5.@1; _21 = ref _5; _11 = ref _5.@1", "_17 = ref _5.@2; _10 = copy _5.@2.0; _18 = ref _5.@2.1"},
		{"_6.@3.@2.1", "", "_26 = ref _6; _21 = ref _6.@3; _17 = ref _6.@3.@2; _18 = ref _6.@3.@2.1; _10 = copy _6.@3.@2.1.*", "_10 = copy _6.@3.@2.0; _11 = ref _6.@3.@1; _10 = copy _6.@0; _10 = copy _5.@1"},
	})
}

// 24.3: moves and mut references of a place that meets that of any loan.
func TestTakes(t *testing.T) {
	wantBroken(t, []broken{
		{"_3", "_23 = move _3; _14 = mut _3.*; _19 = mut _3; _20 = call take move _3 copy _7; _29 = make S 1 move _3", "", "_23 = move _4.0; _13 = mut _1; _13 = move _14"},
		{"_4", "_24 = move _4; _16 = mut _4; _19 = mut _4.1; _23 = move _4.0; _14 = mut _4.0.*; _28 = box move _4", "", "_16 = mut _24; _24 = move _24; _23 = move _9.2.*.0"},
		{"_4.0", "_24 = move _4; _16 = mut _4; _19 = mut _4.0; _23 = move _4.0; _14 = mut _4.0.*", "", "_23 = move _4.1; _19 = mut _4.1; _14 = mut _4.1.*"},
		{"_4.0.*", "_24 = move _4; _16 = mut _4; _19 = mut _4.0; _23 = move _4.0; _14 = mut _4.0.*", "", "_23 = move _4.1; _14 = mut _4.1.*"},
		{"_9.2.*.0.*", "_28 = move _9.2; _24 = move _9.2.*; _23 = move _9.2.*.0; _13 = mut _9.2.*.0.*", "", "_23 = move _9.2.*.1; _29 = move _9.0; _5 = move _9.1"},
		{"_8.*.0.*", "_16 = move _8; _16 = mut _8.*; _19 = mut _8.*.0; _13 = mut _8.*.0.*", "", "_19 = mut _8.*.1; _8 = move _16"},
		{"_14.*", "_13 = move _14; _13 = mut _14.*; _14 = call keep move _14", "", "_14 = move _13; _14 = call keep move _13"},
		{"_6.@3", "_6 = move _6; _27 = mut _6; _5 = move _6.@3; _29 = move _6.@3.@2; _13 = mut _6.@3.@1", "", "_23 = move _6.@1; _13 = mut _6.@0; _29 = move _6.@2.*; _5 = move _5"},
	})
}

// 24.3: a tag is read of what is the place of a mut loan, or within it.
func TestTags(t *testing.T) {
	wantBroken(t, []broken{
		{"_5", "", "_10 = tag _5", "_10 = tag _6; _10 = tag _9.1"}, {"_6", "", "_10 = tag _6; _10 = tag _6.@3", "_10 = tag _5"}, {"_6.@3", "", "_10 = tag _6.@3", "_10 = tag _6"}, {"_5.@1", "", "", "_10 = tag _5"}, {"_6.@3.@2.0", "", "", "_10 = tag _6; _10 = tag _6.@3"}, {"_9", "", "_10 = tag _9.1", "_10 = tag _5"}, {"_9.0", "", "", "_10 = tag _9.1"}, {"_22.*", "", "_10 = tag _22.*", "_10 = tag _21.*"}, {"_22.*.@2", "", "", "_10 = tag _22.*"}, {"_21.*", "", "_10 = tag _21.*", "_10 = tag _22.*"},
	})
}

// 24.3: what is set is the loan's place, is within it, or has it, without a -1 between.
func TestWrites(t *testing.T) {
	wantBroken(t, []broken{
		{"_1", "_1 = 2; _1 = call give", "", "_10 = 2; _13.* = 2; _10 = call give; _13.* = call give"},
		{"_4", "_4 = move _24; _4.0 = box 1; _4.1.* = 3; _4 = call made; _4.0.* = call give", "", "_24 = move _24; _24.0 = box 1; _8.* = call made"},
		{"_4.0", "_4 = move _24; _4.0 = box 1; _4.0.* = 3; _4 = call made; _4.0.* = call give", "", "_4.1 = box 1; _4.1.* = 2; _4.1.* = call give"},
		{"_4.0.*", "_4.0.* = 3; _4.0.* = call give", "", "_4 = move _24; _4.0 = box 1; _4 = call made; _4.1.* = 2"},
		{"_28.*", "_28.* = move _4; _28.* = call made; _28.*.0 = box 1; _28.*.1.* = 3", "", "_28 = box move _4"},
		{"_28.*.0", "_28.* = move _4; _28.* = call made; _28.*.0 = box 1; _28.*.0.* = 3", "", "_28 = box move _4; _28.*.1 = box 2; _28.*.1.* = 5"},
		{"_9.2.*.0", "_9.2.* = call made; _9.2.*.0 = box 1; _9.2.*.0.* = 2", "", "_9 = make P move _29 move _5 move _28; _9.2 = move _28; _9.0 = move _29; _9.2.*.1 = box 1"},
		{"_9.1.@2.0", "_9 = make P move _29 move _5 move _28; _9.1 = move _5; _9.1.@2 = move _29; _9.1.@2.0 = 3", "", "_9.1.@1 = 3; _9.1.@2.1 = box 3; _9.1.@2.1.* = 3; _9.0.0 = 3"},
		{"_8.*", "_8.* = move _4; _8.*.0 = box 1; _8.*.1.* = 1; _8.* = call made", "", "_8 = mut _4; _16.* = move _4"},
		{"_8.*.0", "_8.* = move _4; _8.*.0 = box 1; _8.*.0.* = 1", "", "_8 = mut _4; _8.*.1 = box 1"},
		{"_8.*.0.*", "_8.*.0.* = 1; _8.*.0.* = call give", "", "_8 = mut _4; _8.* = move _4; _8.*.0 = box 1"},
		{"_14.*", "_14.* = 1; _14.* = call give", "", "_14 = mut _1; _14 = call keep move _13; _13.* = 1"},
		{"_5.@1", "_5 = pick E 0; _5.@1 = 2", "", "_5.@2.0 = 1; _5.@2.1 = box 1"},
	})
}

// 24.3: what is dropped is the loan's place, is within it, or has it, by way of Boxes alone; what is freed, with one Box between, and that at once.
func TestDropsAndFrees(t *testing.T) {
	wantBroken(t, []broken{
		{"_3", "drop _3; free _3", "", "drop _23; free _23; drop _4; free _4.0"}, {"_3.*", "drop _3; free _3", "", "drop _23; free _23"}, {"_4", "drop _4; drop _4.0; free _4.1", "", "drop _24; free _24.0"}, {"_4.0", "drop _4; drop _4.0; free _4.0", "", "drop _4.1; free _4.1"}, {"_4.0.*", "drop _4; drop _4.0; free _4.0", "", "drop _4.1; free _4.1"},
		{"_28", "drop _28; free _28; drop _28.*; drop _28.*.0; free _28.*.1", "", "drop _4"}, {"_28.*", "drop _28; free _28; drop _28.*; drop _28.*.0; free _28.*.1", "", "drop _4; free _3"}, {"_28.*.0", "drop _28; free _28; drop _28.*; drop _28.*.0; free _28.*.0", "", "drop _28.*.1; free _28.*.1"}, {"_28.*.0.*", "drop _28; drop _28.*; drop _28.*.0; free _28.*.0", "", "free _28; drop _28.*.1; free _28.*.1"},
		{"_9", "drop _9; drop _9.0; drop _9.1; free _9.2; drop _9.2.*.1; free _9.0.1", "", "drop _28"}, {"_9.2.*.1", "drop _9; drop _9.2; free _9.2; drop _9.2.*; drop _9.2.*.1; free _9.2.*.1", "", "drop _9.0; drop _9.1; free _9.0.1; free _9.2.*.0"}, {"_9.2.*.1.*", "drop _9; drop _9.2; drop _9.2.*; drop _9.2.*.1; free _9.2.*.1", "", "free _9.2; drop _9.1"}, {"_9.1.@2.1.*", "drop _9; drop _9.1; drop _9.1.@2; drop _9.1.@2.1; free _9.1.@2.1", "", "drop _9.0; free _9.2; drop _9.2"},
		{"_8.*", "drop _8.*; drop _8.*.0; free _8.*.0", "", "drop _16.*; drop _4; free _16.*.0"}, {"_8.*.0.*", "drop _8.*; drop _8.*.0; free _8.*.0", "", "drop _8.*.1; free _8.*.1"}, {"_8.*.0", "drop _8.*; drop _8.*.0; free _8.*.0", "", "drop _16.*.0"}, {"_18.*", "drop _18.*; free _18.*", "", "drop _19.*"}, {"_19.*.*", "drop _19.*; free _19.*", "", "free _18.*; drop _3"},
		{"_5", "drop _5; drop _5.@2; drop _5.@2.1; free _5.@2.1", "", "drop _6"}, {"_5.@1", "drop _5", "", "drop _5.@2; free _5.@2.1"}, {"_5.@2.0", "drop _5; drop _5.@2", "", "drop _5.@2.1; free _5.@2.1"}, {"_6.@2.*.1", "drop _6; drop _6.@2; free _6.@2; drop _6.@2.*; drop _6.@2.*.1; free _6.@2.*.1", "", "drop _6.@1; free _6.@1; drop _6.@3"}, {"_6.@2.*.1.*", "drop _6; drop _6.@2; drop _6.@2.*; free _6.@2.*.1", "", "free _6.@2; free _6.@1"},
	})
}

// 24.3: a local's end and its beginning invalidate loans of what lies in its own words.
func TestEndsAndBeginnings(t *testing.T) {
	wantBroken(t, []broken{
		{"_1", "dead _1; live _1", "", "dead _10; live _10"}, {"_4", "dead _4; live _4", "", "dead _24; live _24"}, {"_4.1", "dead _4; live _4", "", "dead _24"}, {"_4.1.*", "", "", "dead _4; live _4"}, {"_9.1.@2.1", "dead _9; live _9", "", "dead _5"}, {"_9.1.@2.1.*", "", "", "dead _9; live _9"}, {"_28.*", "", "", "dead _28; live _28"}, {"_8.*", "", "", "dead _8; live _8"}, {"_8.*.0", "", "", "dead _8; live _8; dead _4"}, {"_7.*", "", "", "dead _7; live _7"}, {"_5.@1", "dead _5; live _5", "", "dead _6"},
	})
}

// 24.3: the loan that a step makes is not invalidated by it, others are; of a step's places each one counts.
func TestAgainst(t *testing.T) {
	for row, want := range map[string]string{
		"_13 = mut _1; _14 = mut _1; _11 = ref _1; _10 = 2":                                                          "1 2|0 2|0 1||",
		"_11 = ref _1; _12 = ref _1; _1 = 3; _13 = mut _1":                                                           "2|2|0 1 2|0 1|",
		"_13 = mut _1; _13 = mut _13.*; _14 = mut _13.*; _13.* = 2":                                                  "|2|1|1 2|",
		"_11 = ref _10; _12 = ref _1; _13 = mut _24.0.*; _14 = mut _4.0.*; _10 = copy _1 + copy _24.0.*; return":     "||||0 2|",
		"_13 = mut _10; _14 = mut _3.*; _16 = mut _4; _12 = call mixed copy _10 copy _17 move _3 move _16 -> 1; bb1": "|||0 1|",
		"_13 = mut _10; _18 = ref _3; _19 = mut _24.0; _24.0.* = call give -> 1; bb1; dead _10":                      "|||2|0|",
		"goto 1; bb1; return; bb2; _11 = ref _1; _1 = 2":                                                             "|||0|",
		"_13 = mut _1; goto 2; bb1; _14 = mut _10; return; bb2; _1 = copy _10; _15 = ref _4; drop _4":                "||||0 1||2|",
	} {
		m, _ := rowOf(t, row)
		x := modelOf(m.Items, m.Fns[0])
		var texts []string
		for _, p := range x.points {
			l, e := Against(m, 0, p[0], p[1])
			if e != api.OK || !slices.Equal(l, x.against(p)) {
				t.Errorf("%s: %v: %v %v, not %v", row, p, l, e, x.against(p))
			}
			texts = append(texts, listText(l))
		}
		if got := strings.Join(texts, "|"); got != want {
			t.Errorf("%s: %s, not %s", row, got, want)
		}
	}
}
