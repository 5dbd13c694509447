package mirun

import "testing"

// 21.1: MDrop ends blocks, a step for each, and leaves nothing; MSet drops nothing; MFree ends one block, whatever is in it.
func TestDrops(t *testing.T) {
	wantRows(t, []row{
		{"drop _3", done(0, "", 2)}, {"_3 = box 5; drop _3", done(0, "", 4)}, {"_3 = box 5; drop _3; drop _3", done(0, "", 5)}, {"_3 = box 5; drop _3; print copy _3.*", undefined("", 4)}, {"_3 = box 5; drop _3; _3 = box 6; print copy _3.*", done(0, "6\n", 6)},
		{"_3 = box 5; _15 = box move _3; drop _15", done(0, "", 6)}, {"_3 = box 5; _15 = box move _3; drop _15.*; drop _15", done(0, "", 7)}, {"_3 = box 5; _15 = box move _3; drop _15.*; _15.* = box 6; print copy _15.*.*", done(0, "6\n", 7)}, {"_3 = box 5; _15 = box move _3; _3 = move _15.*; drop _15; print copy _3.*", done(0, "5\n", 7)},
		{"_4 = call whole; drop _4", done(0, "", 7)}, {"_4 = call whole; drop _4; print copy _4.0", undefined("", 7)}, {"_4 = call whole; drop _4.1; print copy _4.0; print copy _4.1.*", undefined("1\n", 8)}, {"_4 = call whole; drop _4.1; drop _4", done(0, "", 8)}, {"_4.0 = 1; drop _4; print copy _4.0", undefined("", 3)},
		{"_7 = pick E 0; drop _7", done(0, "", 3)}, {"_7 = pick E 0; drop _7; _1 = tag _7", undefined("", 3)}, {"_7 = pick E 1 5; drop _7", done(0, "", 3)}, {"_4 = call whole; _7 = pick E 2 move _4; drop _7", done(0, "", 8)}, {"_4 = call whole; _7 = pick E 2 move _4; drop _7.@2.1; print copy _7.@2.0; drop _7", done(0, "1\n", 10)}, {"_4 = call whole; _7 = pick E 2 move _4; drop _7.@2; _1 = tag _7; print copy _1; print copy _7.@2.0", undefined("2\n", 10)}, {"drop _7", done(0, "", 2)},
		{"_12 = pick L 0; _21 = box move _12; _12 = pick L 1 move _21; _21 = box move _12; _12 = pick L 1 move _21; _21 = box move _12; drop _21", done(0, "", 11)}, {"_12 = pick L 0; _21 = box move _12; drop _21.*; drop _21", done(0, "", 6)},
		{"_16.0 = box 1; _16.1 = box 2; drop _16", done(0, "", 6)}, {"_16.0 = box 1; _16.1 = box 2; drop _16.0; print copy _16.1.*; drop _16", done(0, "2\n", 8)}, {"_16.1 = box 2; _28 = box move _16", undefined("", 2)}, {"_16.1 = box 2; drop _16", done(0, "", 4)},
		{"_3 = box 1; _13 = ref _3.*; _3 = box 2; print copy _13.*; drop _3; print copy _13.*", done(0, "1\n1\n", 8)}, // what was there is not dropped
		{"_3 = box 1; _13 = ref _3.*; drop _3; print copy _13.*", undefined("", 5)}, {"_4 = call whole; _13 = ref _4.1.*; drop _4; print copy _13.*", undefined("", 8)}, {"_4 = call whole; _13 = ref _4.1.*; _10 = box move _4; print copy _13.*; drop _10; print copy _13.*", undefined("9\n", 11)},
		{"free _3", undefined("", 1)}, {"_3 = box 5; free _3", done(0, "", 3)}, {"_3 = box 5; free _3; free _3", undefined("", 3)}, {"_3 = box 5; free _3; drop _3", done(0, "", 4)}, {"_3 = box 5; drop _3; free _3", undefined("", 4)}, {"_3 = box 5; free _3; print copy _3.*", undefined("", 3)}, {"_3 = box 5; free _3; _3 = box 6; print copy _3.*", done(0, "6\n", 5)},
		{"_3 = box 5; _13 = ref _3.*; free _3; print copy _13.*", undefined("", 4)}, {"_3 = box 5; _13 = ref _3.*; _15 = box move _3; free _15; print copy _13.*", done(0, "5\n", 6)}, // what is in it lives on
		{"_3 = box 5; _15 = box move _3; free _15.*; free _15", done(0, "", 5)}, {"_3 = box 5; _15 = box move _3; free _15; free _15.*", undefined("", 4)}, {"_3 = box 5; _15 = box move _3; free _15.*; drop _15", done(0, "", 6)}, {"_4 = call whole; free _4.1; print copy _4.0; print copy _4.1.*", undefined("1\n", 7)},
		{"_3 = box 1; _19 = mut _3; drop _19.*; _19.* = box 2; print copy _3.*; free _19.*; drop _3", done(0, "2\n", 9)},
	})
}

// 21.1: the order in which a drop goes, as steps tell it ahead of a block that does not live: its words came there as a number that was lent (see TestOtherTypes).
func TestDropOrder(t *testing.T) {
	// _17 and _18 hold the same block, and _19 is lent from _18's Box.
	twice := "_3 = box 5; _18 = pick X 1 move _3; _19 = mut _18.@1; _17 = pick X 0 0; _13 = ref _17.@0; _3 = box 6; _17 = pick X 1 move _3; _18 = pick X 0 copy _13.*; "
	wantRows(t, []row{
		{twice + "print copy _19.*.*; print copy _17.@1.*", done(0, "6\n6\n", 11)},
		{twice + "drop _17; drop _19.*", undefined("", 11)}, {twice + "drop _19.*; drop _17", undefined("", 11)}, {twice + "free _19.*; drop _17", undefined("", 10)}, {twice + "drop _17; free _19.*", undefined("", 11)}, {twice + "free _17.@1; free _19.*", undefined("", 10)},
		{twice + "_16.0 = move _19.*; _16.1 = box 7; drop _17; drop _16", undefined("", 13)},                                                 // a field that does not live, first
		{twice + "_16.0 = box 7; _16.1 = move _19.*; drop _17; drop _16", undefined("", 14)},                                                 // behind one that lives
		{twice + "_15 = box move _19.*; drop _17; drop _15", undefined("", 13)},                                                              // its own block takes a step ahead of what is in it
		{twice + "_16.0 = box 7; _16.1 = move _19.*; _28 = box move _16; drop _17; drop _28", undefined("", 16)},                             // and lives until that was dropped
		{twice + "_9.0.1 = box 7; _9.1 = pick E 0; _4 = make S 1 move _19.*; _9.1 = pick E 2 move _4; drop _17; drop _9", undefined("", 16)}, // field by field
	})
	// A block within itself is dropped until the fuel is out.
	ring := "_12 = pick L 0; _21 = box move _12; _22 = mut _21.*; _22.* = pick L 1 move _21; drop _22.*"
	m := rowOf(t, ring)
	for _, fuel := range []int{4, 5, 6, 7, 1000, 100000} {
		o, _ := Run(m, nil, fuel)
		if o.End != 2 || o.Steps != fuel {
			t.Error(fuel, o)
		}
	}
}

// 21.1: the order in which a statement and an end look at things.
func TestOrder(t *testing.T) {
	wantRows(t, []row{
		{"_3.* = 1 / 0", done(102, "", 1)}, {"dead _1; _1 = 1 / 0", done(102, "", 2)}, {"_7.@1 = neg -9223372036854775808", done(101, "", 1)}, // the rvalue ahead of the place
		{"_1 = copy _20 / 0", undefined("", 1)}, {"_1 = 0 / copy _20", undefined("", 1)}, // operands ahead of the sign
		{"_12 = pick L 0; _21 = box move _12; _21.* = pick L 1 move _21", undefined("", 3)}, {"_12 = pick L 0; _21 = box move _12; _12 = pick L 1 move _21; _12.@1.* = move _12", undefined("", 4)}, // a move ahead of the place
		{"_3 = box 1; _3 = move _3; print copy _3.*", done(0, "1\n", 4)}, {"_3 = box 1; _4 = make S copy _3.* move _3; print copy _4.0", done(0, "1\n", 4)}, // one operand ahead of the next one
		{"_3 = box 1; _16.0 = move _3; _16.1 = move _3", undefined("", 3)}, {"_3 = box 1; _16 = make D move _3 move _3", undefined("", 2)},
		{"_10 = box move _4", undefined("", 1)}, {"_4 = call whole; _5 = call f copy _4.0 copy _5 move _10", undefined("", 5)},
		{"_4 = call whole; _1 = call two copy _4.0 copy _4.1.*; print copy _1", done(0, "-8\n", 9)},
		{"_1 = 1; _1 = copy _1 + copy _1; print copy _1", done(0, "2\n", 4)},
		{"_1 = 7; _13 = ref _1; _1 = call more copy _13.*; print copy _13.*", done(0, "7\n8\n", 8)},
		{"_3 = box 1; _14 = mut _3.*; _14.* = call more copy _14.*; print copy _3.*", done(0, "1\n2\n", 8)},
		{"_1 = 1; print copy _1; _1 = copy _1 / 0; print 2", done(102, "1\n", 3)},
		{"_15 = box move _3; _1 = 1 / 0", undefined("", 1)},
	})
}

// 21.1: what was lent, and holds a word of another type since: it is read as it lies, and undefined where a number, a pointer or a variant is needed, or where its object has no such word.
func TestOtherTypes(t *testing.T) {
	wantRows(t, []row{
		{"_17 = pick X 0 7; _13 = ref _17.@0; _17 = pick X 2 true; print copy _13.*", done(0, "1\n", 5)},
		{"_17 = pick X 0 7; _13 = ref _17.@0; _3 = box 1; _17 = pick X 1 move _3; _1 = copy _13.*; _20 = copy _1", done(0, "", 7)},
		{"_17 = pick X 0 7; _13 = ref _17.@0; _3 = box 1; _17 = pick X 1 move _3; print copy _13.*", undefined("", 5)},
		{"_17 = pick X 0 7; _13 = ref _17.@0; _3 = box 1; _17 = pick X 1 move _3; _1 = copy _13.* + 1", undefined("", 5)},
		{"_17 = pick X 0 7; _13 = ref _17.@0; _3 = box 1; _17 = pick X 1 move _3; switch copy _13.* 0 1 2; bb1; panic 101; bb2; panic 102", done(102, "", 6)},
		{"_3 = box 1; _17 = pick X 1 move _3; _19 = mut _17.@1; _17 = pick X 0 7; print copy _19.*.*", undefined("", 5)},
		{"_3 = box 1; _17 = pick X 1 move _3; _19 = mut _17.@1; _17 = pick X 0 7; drop _19.*", undefined("", 5)},
		{"_3 = box 1; _17 = pick X 1 move _3; _19 = mut _17.@1; _17 = pick X 0 7; free _19.*", undefined("", 5)},
		{"_3 = box 1; _17 = pick X 1 move _3; _19 = mut _17.@1; _17 = pick X 0 7; _3 = move _19.*; print 1; print copy _3.*", undefined("1\n", 7)},
		{"_4 = call whole; _10 = box move _4; _17 = pick X 3 move _10; _10 = move _17.@3; print copy _10.*.1.*", done(0, "9\n", 9)},
	})
}

// 21.1: a block that is followed as one of a wider type has no words behind its own, and a number that is no variant's is no tag.
func TestShortBlocks(t *testing.T) {
	// _33 points to a Box<S>, whose block has but one word; _34 to a Box<E>, likewise.
	asS := "_4 = call whole; _10 = box move _4; _17 = pick X 3 move _10; _33 = mut _17.@3; _3 = box 8; _17 = pick X 1 move _3; "
	asE := func(tag string) string {
		return "_7 = pick E 0; _35 = box move _7; _17 = pick X 4 move _35; _34 = mut _17.@4; _3 = box " + tag + "; _17 = pick X 1 move _3; "
	}
	wantRows(t, []row{
		{asS + "print copy _33.*.*.0; _33.*.*.0 = 7; print copy _17.@1.*", done(0, "8\n7\n", 13)},
		{asS + "print copy _33.*.*.1.*", undefined("", 10)}, {asS + "_3 = move _33.*.*.1", undefined("", 10)}, {asS + "_4 = move _33.*.*", undefined("", 10)}, {asS + "_6 = mut _33.*.*; print copy _6.*.0; print copy _6.*.1.*", undefined("8\n", 12)},
		{asS + "_33.*.*.1 = box 2", undefined("", 10)}, {asS + "_4 = call whole; _33.*.* = move _4", undefined("", 14)},
		{asS + "_29 = ref _33.*.*.1; print 1; print copy _29.*.*", undefined("1\n", 12)}, {asS + "drop _33.*", undefined("", 11)}, {asS + "drop _33.*.*", undefined("", 10)}, {asS + "drop _33.*.*.1", undefined("", 10)}, {asS + "free _33.*.*.1", undefined("", 10)}, {asS + "free _33.*; print 1; _1 = copy _17.@1.*", undefined("1\n", 12)},
		{asE("0") + "_7 = move _34.*.*; _1 = tag _7; print copy _1; _1 = tag _34.*.*", undefined("0\n", 10)}, {asE("0") + "drop _34.*.*; print 1; _1 = tag _34.*.*", undefined("1\n", 9)}, {asE("0") + "drop _34.*", done(0, "", 9)},
		{asE("1") + "_7 = move _34.*.*", undefined("", 7)}, {asE("1") + "_1 = copy _34.*.*.@1", undefined("", 7)}, {asE("1") + "_34.*.*.@1 = 2", undefined("", 7)}, {asE("1") + "drop _34.*.*", done(0, "", 8)}, {asE("2") + "drop _34.*.*", undefined("", 7)}, {asE("2") + "drop _34.*", undefined("", 8)},
		{asE("3") + "_1 = tag _34.*.*; print copy _1; _7 = move _34.*.*", undefined("3\n", 9)}, {asE("-1") + "_1 = tag _34.*.*; print copy _1; _7 = move _34.*.*", undefined("-1\n", 9)}, {asE("3") + "drop _34.*.*", undefined("", 7)}, {asE("-1") + "drop _34.*", undefined("", 8)}, {asE("4611686018427387904") + "drop _34.*", undefined("", 8)},
	})
}
