package opt

import (
	"testing"

	"patina/mir"
)

// shorter is a row of what is made of a function.
type shorter struct {
	head, row, want string
}

// wantRows holds Make to rows; what is made again is the same; and mains to what they do.
func wantRows(t *testing.T, rows []shorter) {
	t.Helper()
	for _, c := range rows {
		m := programOf(t, c.head, c.row)
		got := madeOf(t, m)
		if rowOf(got, 0) != c.want {
			t.Errorf("%s, %s:\n%s, not\n%s", c.head, c.row, rowOf(got, 0), c.want)
		}
		if again := madeOf(t, got); !mir.Same(again, got) {
			t.Errorf("%s, %s: again\n%s", c.head, c.row, rowOf(again, 0))
		}
		if c.head != "main()" {
			continue
		}
		for _, in := range inputs() {
			wantSame(t, m, got, in, ends{})
		}
	}
}

// 25.1, 25.2: what is known is folded: by way of copies, of both ways of a test, of a ring, of a test's own number; what a parameter, a call or a reference may have is not.
func TestConstants(t *testing.T) {
	wantRows(t, []shorter{
		{"main()", "1: i64; 2: i64; 3: (); bb0; _1 = 2; _2 = copy _1 + 3; _3 = call print copy _2 -> 1; bb1; _0 = (); return", "bb0; _3 = call print 5 -> 1; bb1; _0 = (); return"},
		{"it(c: bool) -> i64", "2: i64; 3: bool; bb0; if copy _1 1 2; bb1; _2 = 5; goto 3; bb2; _2 = 5; goto 3; bb3; _3 = copy _2 < 6; if copy _3 4 5; bb4; _0 = copy _2; return; bb5; _0 = 7; return", "bb0; _0 = 5; return"},
		{"it(c: bool) -> i64", "2: i64; 3: bool; bb0; if copy _1 1 2; bb1; _2 = 5; goto 3; bb2; _2 = 6; goto 3; bb3; _3 = copy _2 < 6; if copy _3 4 5; bb4; _0 = copy _2; return; bb5; _0 = 7; return", "bb0; if copy _1 1 2; bb1; _2 = 5; goto 3; bb2; _2 = 6; goto 3; bb3; _3 = copy _2 < 6; if copy _3 4 5; bb4; _0 = copy _2; return; bb5; _0 = 7; return"},
		{"it(c: bool)", "2: bool; 3: bool; bb0; _2 = true; goto 1; bb1; if copy _2 2 3; bb2; _3 = copy _2; _2 = copy _3; goto 1; bb3; panic 103", "bb0; goto 1; bb1; goto 1"},
		{"it(n: i64)", "2: bool; 3: bool; bb0; _2 = true; goto 1; bb1; _3 = copy _1 == 0; if copy _3 4 2; bb2; _1 = copy _1 - 1; if copy _2 1 3; bb3; panic 103; bb4; _0 = (); return", "bb0; _3 = copy _1 == 0; if copy _3 2 1; bb1; _1 = copy _1 - 1; goto 0; bb2; _0 = (); return"},
		{"it(n: i64) -> i64", "2: i64; bb0; _2 = copy _1; goto 1; bb1; _2 = copy _2 - 1; switch copy _2 0 2 1; bb2; _0 = copy _2; return", "bb0; _2 = copy _1; goto 1; bb1; _2 = copy _2 - 1; switch copy _2 0 2 1; bb2; _0 = 0; return"},
		{"it(n: i64, c: bool) -> bool", "3: bool; bb0; _3 = copy _2; if copy _3 1 2; bb1; _0 = copy _2; return; bb2; _0 = not copy _3; return", "bb0; if copy _2 1 2; bb1; _0 = true; return; bb2; _0 = not copy _2; return"},
		{"it(n: i64) -> i64", "2: i64; bb0; switch copy _1 3 1 5 2 3; bb1; _0 = copy _1 + 1; return; bb2; _0 = copy _1 * copy _1; return; bb3; _0 = copy _1; return", "bb0; switch copy _1 3 1 5 2 3; bb1; _0 = 4; return; bb2; _0 = 25; return; bb3; _0 = copy _1; return"},
		{"it(n: i64) -> i64", "bb0; switch copy _1 3 1 5 1 7 2 2; bb1; _0 = copy _1; return; bb2; _0 = copy _1; return", "bb0; switch copy _1 3 1 5 1 2; bb1; _0 = copy _1; return; bb2; _0 = copy _1; return"},
		{"it(x: i64) -> bool", "2: bool; bb0; _2 = not true; if copy _2 1 2; bb1; _0 = true == false; return; bb2; _0 = 3 <= 3; return", "bb0; _0 = true; return"},
		{"it(x: i64) -> i64", "bb0; _0 = neg 5; return", "bb0; _0 = -5; return"},
		{"main()", "1: i64; bb0; _1 = 9223372036854775807 + 1; _0 = (); return", "bb0; panic 101"},
		{"main()", "1: i64; bb0; _1 = neg -9223372036854775808; _0 = (); return", "bb0; panic 101"},
		{"main()", "1: i64; 2: i64; 3: (); bb0; _2 = 0; _3 = call print 1 -> 1; bb1; _1 = 5 / copy _2; _3 = call print 2 -> 2; bb2; _0 = (); return", "bb0; _3 = call print 1 -> 1; bb1; panic 102"},
		{"it() -> i64", "1: Q; 2: Q; bb0; _1 = make Q 1 2 true; _2 = move _1; if copy _2.2 1 2; bb1; _0 = copy _2.0 + copy _2.1; return; bb2; _0 = 0; return", "bb0; _0 = 3; return"},
		{"it() -> i64", "1: R; 2: E; 3: i64; bb0; _2 = pick E 1 5; _1 = make R move _2 7; _3 = tag _1.0; switch copy _3 1 1 2; bb1; _0 = copy _1.0.@1; return; bb2; _0 = 0; return", "bb0; _0 = 5; return"},
		{"it() -> i64", "1: E; 2: i64; 3: &i64; bb0; _1 = pick E 1 5; _2 = tag _1; _3 = ref _2; _0 = copy _3.*; return", "bb0; _2 = 1; _3 = ref _2; _0 = copy _3.*; return"},
		{"it(l: L) -> i64", "2: i64; 3: L; bb0; _3 = pick L 0; _2 = tag _3; switch copy _2 0 1 2; bb1; _0 = 1; drop _3; drop _1; return; bb2; _0 = 2; drop _3; drop _1; return", "bb0; _0 = 1; drop _1; return"},
		{"it(x: X) -> i64", "2: bool; bb0; _1 = pick X 0 7; _2 = copy _1.@1; if copy _2 1 2; bb1; _0 = 1; return; bb2; _0 = 2; return", "bb0; _0 = 2; return"},
		{"it(w: W) -> i64", "bb0; _1.0.0 = 5; _0 = copy _1.0.0; return", "bb0; _1.0.0 = 5; _0 = copy _1.0.0; return"},
		{"it(x: i64) -> i64", "2: i64; 3: &mut i64; bb0; _2 = 3; _3 = mut _2; _3.* = copy _1; _0 = copy _2; return", "bb0; _2 = 3; _3 = mut _2; _3.* = copy _1; _0 = copy _2; return"},
		{"it() -> i64", "1: i64; 2: &mut i64; 3: (); bb0; _1 = 3; _2 = mut _1; _3 = call put move _2 -> 1; bb1; switch copy _1 3 2 3; bb2; _0 = 1; return; bb3; _0 = 2; return", "bb0; _1 = 3; _2 = mut _1; _3 = call put move _2 -> 1; bb1; switch copy _1 3 2 3; bb2; _0 = 1; return; bb3; _0 = 2; return"},
		{"it() -> i64", "1: i64; bb0; _1 = 4; _1 = call two copy _1 1 -> 1; bb1; switch copy _1 4 2 3; bb2; _0 = 1; return; bb3; _0 = copy _1; return", "bb0; _1 = call two 4 1 -> 1; bb1; switch copy _1 4 2 3; bb2; _0 = 1; return; bb3; _0 = copy _1; return"},
		{"it(u: ())", "2: (); bb0; _2 = copy _1; _0 = copy _2; return", "bb0; _0 = (); return"},
		{"it(r: &())", "bb0; _0 = copy _1.*; return", "bb0; _0 = (); return"},
		{"it(c: bool) -> bool", "bb0; if copy _1 1 2; bb1; _0 = copy _1; return; bb2; _0 = copy _1; return", "bb0; if copy _1 1 2; bb1; _0 = true; return; bb2; _0 = copy _1; return"},
	})
}

// 25.1: a copy is what was copied, as long as both are the same: what is set, moved, dropped, lent, or reached by a reference between is not.
func TestCopies(t *testing.T) {
	wantRows(t, []shorter{
		{"it(x: i64) -> i64", "2: i64; bb0; _2 = copy _1; _0 = copy _2 + copy _2; return", "bb0; _0 = copy _1 + copy _1; return"},
		{"it(x: i64) -> i64", "2: i64; bb0; _2 = copy _1; _1 = 4; _0 = copy _2 + copy _1; return", "bb0; _0 = copy _1 + 4; return"},
		{"it(x: i64) -> i64", "2: i64; 3: &mut i64; 4: (); bb0; _2 = copy _1; _3 = mut _1; _4 = call put move _3 -> 1; bb1; _0 = copy _2 + copy _1; return", "bb0; _2 = copy _1; _3 = mut _1; _4 = call put move _3 -> 1; bb1; _0 = copy _2 + copy _1; return"},
		{"it(q: Q) -> i64", "2: i64; bb0; _2 = copy _1.0; _1.1 = 4; _0 = copy _2 + copy _1.0; return", "bb0; _2 = copy _1.0; _1.1 = 4; _0 = copy _2 + copy _1.0; return"},
		{"it(q: Q) -> i64", "2: i64; 3: (); bb0; _2 = copy _1.0; _3 = call both move _1 2 -> 1; bb1; _0 = copy _2; return", "bb0; _2 = copy _1.0; _3 = call both move _1 2 -> 1; bb1; _0 = copy _2; return"},
		{"it(q: Q)", "2: i64; bb0; _2 = copy _1.0; _0 = call both move _1 copy _2 -> 1; bb1; return", "bb0; _2 = copy _1.0; _0 = call both move _1 copy _2 -> 1; bb1; return"},
		{"it(q: Q)", "2: i64; bb0; _2 = copy _1.0; _0 = call early copy _2 move _1 -> 1; bb1; return", "bb0; _0 = call early copy _1.0 move _1 -> 1; bb1; return"},
		{"it(q: &Q) -> i64", "2: i64; 3: i64; 4: i64; bb0; _2 = copy _1.*.0; _3 = copy _1.*.0; _4 = copy _2 + copy _3; _0 = copy _4; return", "bb0; _2 = copy _1.*.0; _0 = copy _2 + copy _2; return"},
		{"it(r: &mut Q) -> i64", "2: i64; 3: i64; bb0; _2 = copy _1.*.0; _3 = copy _1.*.0; _1.*.0 = 4; _0 = copy _2 + copy _3; return", "bb0; _2 = copy _1.*.0; _1.*.0 = 4; _0 = copy _2 + copy _2; return"},
		{"it(r: &mut Q) -> i64", "2: i64; 3: i64; bb0; _2 = copy _1.*.0; _1.*.0 = 4; _3 = copy _1.*.0; _0 = copy _2 - copy _3; return", "bb0; _2 = copy _1.*.0; _1.*.0 = 4; _0 = copy _2 - copy _1.*.0; return"},
		{"it(r: &mut Q) -> i64", "2: i64; 3: &mut i64; 4: (); bb0; _2 = copy _1.*.0; _3 = mut _1.*.0; _4 = call put move _3 -> 1; bb1; _0 = copy _2 + 1; return", "bb0; _2 = copy _1.*.0; _3 = mut _1.*.0; _4 = call put move _3 -> 1; bb1; _0 = copy _2 + 1; return"},
		{"it(r: &Q) -> i64", "2: i64; 3: (); bb0; _2 = copy _1.*.0; _3 = call print 1 -> 1; bb1; _0 = copy _2 + 1; return", "bb0; _3 = call print 1 -> 1; bb1; _0 = copy _1.*.0 + 1; return"},
		{"it(b: Box<i64>) -> i64", "2: i64; bb0; _2 = copy _1.*; drop _1; _0 = copy _2 + 1; return", "bb0; _2 = copy _1.*; drop _1; _0 = copy _2 + 1; return"},
		{"it(e: E) -> i64", "2: i64; 3: i64; bb0; _2 = tag _1; _3 = tag _1; drop _1; _0 = copy _2 - copy _3; return", "bb0; _2 = tag _1; drop _1; _0 = copy _2 - copy _2; return"},
		{"it(e: &mut E) -> i64", "2: i64; 3: i64; bb0; _2 = tag _1.*; _1.* = pick E 0; _3 = tag _1.*; _0 = copy _2 - copy _3; return", "bb0; _2 = tag _1.*; _1.* = pick E 0; _3 = tag _1.*; _0 = copy _2 - copy _3; return"},
		{"it(r: &i64) -> i64", "2: &i64; 3: &i64; bb0; _2 = copy _1; _3 = ref _2.*; _0 = copy _3.*; return", "bb0; _3 = ref _1.*; _0 = copy _3.*; return"},
		{"it(r: &E)", "2: &E; 3: i64; bb0; _2 = copy _1; _3 = tag _2.*; _0 = (); switch copy _3 1 1 2; bb1; return; bb2; return", "bb0; _3 = tag _1.*; _0 = (); switch copy _3 1 1 2; bb1; return; bb2; return"},
		{"it(r: &i64) -> i64", "2: &i64; bb0; _2 = copy _1; live _1; _0 = copy _2.*; return", "bb0; _0 = copy _1.*; return"},
		{"it(c: bool, r: &i64, s: &i64) -> i64", "4: &i64; bb0; _4 = copy _2; if copy _1 1 2; bb1; _4 = copy _3; goto 2; bb2; _0 = copy _4.*; return", "bb0; _4 = copy _2; if copy _1 1 2; bb1; _4 = copy _3; goto 2; bb2; _0 = copy _4.*; return"},
		{"it(c: bool, r: &i64) -> i64", "3: &i64; bb0; _3 = copy _2; if copy _1 1 2; bb1; _0 = copy _3.*; return; bb2; _0 = 0; return", "bb0; if copy _1 1 2; bb1; _0 = copy _2.*; return; bb2; _0 = 0; return"},
		{"it(c: bool, r: &i64) -> i64", "3: &i64; bb0; _3 = copy _2; if copy _1 2 1; bb1; goto 2; bb2; _0 = copy _3.*; return", "bb0; _0 = copy _2.*; return"},
		{"it(x: i64) -> i64", "bb0; _1 = copy _1; _0 = copy _1; return", "bb0; _0 = copy _1; return"},
		{"it(b: Box<i64>) -> i64", "2: i64; 3: &i64; bb0; _3 = ref _1.*; _2 = copy _3.*; drop _1; _0 = copy _2 + 1; return", "bb0; _3 = ref _1.*; _2 = copy _3.*; drop _1; _0 = copy _2 + 1; return"},
		{"it(b: Box<i64>) -> i64", "2: i64; 3: &i64; bb0; _3 = ref _1.*; _2 = copy _3.*; free _1; _0 = copy _2 + 1; return", "bb0; _3 = ref _1.*; _2 = copy _3.*; free _1; _0 = copy _2 + 1; return"},
		{"it(s: S) -> i64", "2: i64; bb0; _2 = copy _1.0; drop _1; _0 = copy _2 + 1; return", "bb0; _2 = copy _1.0; drop _1; _0 = copy _2 + 1; return"},
		{"it(x: i64) -> i64", "2: i64; 3: &mut i64; bb0; _2 = copy _1; _3 = mut _2; _3.* = 9; _0 = copy _2 + copy _1; return", "bb0; _2 = copy _1; _3 = mut _2; _3.* = 9; _0 = copy _2 + copy _1; return"},
		{"it(x: i64) -> i64", "2: i64; bb0; _2 = copy _1; _1 = call two 1 2 -> 1; bb1; _0 = copy _2 - copy _1; return", "bb0; _2 = copy _1; _1 = call two 1 2 -> 1; bb1; _0 = copy _2 - copy _1; return"},
		{"it(x: i64) -> i64", "2: i64; 3: (); bb0; _2 = copy _1; _3 = call print copy _2 -> 1; bb1; _2 = call two 1 2 -> 2; bb2; _0 = copy _2 - copy _1; return", "bb0; _3 = call print copy _1 -> 1; bb1; _2 = call two 1 2 -> 2; bb2; _0 = copy _2 - copy _1; return"},
		{"it(x: i64, y: i64) -> i64", "3: i64; 4: (); bb0; _3 = copy _1; _4 = call print copy _3 -> 1; bb1; _3 = copy _2 + 1; _0 = copy _3 * copy _3; return", "bb0; _4 = call print copy _1 -> 1; bb1; _3 = copy _2 + 1; _0 = copy _3 * copy _3; return"},
		{"it(r: &Q) -> i64", "2: i64; bb0; _2 = copy _1.*.0; _2 = copy _1.*.0; _0 = copy _2 * copy _2; return", "bb0; _2 = copy _1.*.0; _0 = copy _2 * copy _2; return"},
	})
}

// 25.1: what nobody asks for is not made, if nobody can tell; and locals begin and end where somebody can tell alone.
func TestUnused(t *testing.T) {
	wantRows(t, []shorter{
		{"it(x: i64)", "2: i64; 3: i64; bb0; _2 = copy _1 + 1; _3 = neg copy _1; _3 = copy _1 / 3; _2 = copy _1 % copy _2; _3 = copy _1 - copy _2; _3 = copy _1 * 2; _0 = (); return", "bb0; _2 = copy _1 + 1; _3 = neg copy _1; _3 = copy _1 / 3; _2 = copy _1 % copy _2; _3 = copy _1 - copy _2; _3 = copy _1 * 2; _0 = (); return"},
		{"it(x: i64, s: &S)", "3: bool; 4: bool; 5: E; 6: Q; 7: i64; 8: &i64; 9: Box<i64>; bb0; _3 = copy _1 < 1; _4 = not copy _3; _5 = pick E 1 copy _1; _6 = make Q copy _1 1 copy _3; _7 = tag _5; _7 = copy _6.0; _8 = ref _2.*.0; _9 = box copy _1; _0 = (); return", "bb0; _0 = (); return"},
		{"it(x: i64) -> i64", "2: i64; 3: i64; bb0; _2 = copy _1; _3 = copy _2; _2 = copy _3; if true 0 1; bb1; _0 = copy _2; return", "bb0; goto 0"},
		{"it(n: i64) -> i64", "2: i64; 3: &i64; bb0; _2 = 1; _3 = ref _2; _2 = copy _1; _0 = copy _3.*; return", "bb0; _2 = 1; _3 = ref _2; _2 = copy _1; _0 = copy _3.*; return"},
		{"it(n: i64)", "2: Q; bb0; _2 = make Q 1 2 true; _2.0 = 1 + copy _1; _0 = (); return", "bb0; _2 = make Q 1 2 true; _2.0 = 1 + copy _1; _0 = (); return"},
		{"it(n: i64)", "2: Q; bb0; _2 = make Q 1 2 true; _2.0 = copy _1; _0 = (); return", "bb0; _0 = (); return"},
		{"it(b: Box<i64>)", "2: Box<i64>; bb0; _2 = move _1; _0 = (); return", "bb0; _0 = (); return"},
		{"it(b: Box<i64>)", "2: Box<i64>; bb0; _2 = move _1; drop _1; _0 = (); return", "bb0; _2 = move _1; drop _1; _0 = (); return"},
		{"it(b: Box<i64>)", "2: Box<i64>; bb0; _2 = move _1; drop _2; _0 = (); return", "bb0; _2 = move _1; drop _2; _0 = (); return"},
		{"it(b: &mut S)", "2: Box<i64>; bb0; _2 = move _1.*.1; _0 = (); return", "bb0; _2 = move _1.*.1; _0 = (); return"},
		{"it(n: i64)", "2: S; 3: Box<i64>; bb0; _3 = box 1; _2 = make S 1 move _3; drop _3; _0 = (); return", "bb0; _3 = box 1; _2 = make S 1 move _3; drop _3; _0 = (); return"},
		{"it(b: &mut S)", "2: Box<i64>; bb0; _2 = box 4; _1.*.1 = move _2; _0 = (); return", "bb0; _2 = box 4; _1.*.1 = move _2; _0 = (); return"},
		{"it(x: i64) -> i64", "2: i64; 3: i64; bb0; live _2; _2 = copy _1 * 2; live _3; _3 = copy _2; _0 = copy _3; dead _3; dead _2; return", "bb0; _0 = copy _1 * 2; return"},
		{"it(c: bool)", "2: Box<i64>; bb0; live _2; if copy _1 1 2; bb1; _2 = box 1; goto 2; bb2; drop _2; dead _2; _0 = (); return", "bb0; live _2; if copy _1 1 2; bb1; _2 = box 1; goto 2; bb2; drop _2; _0 = (); return"},
		{"it(c: bool)", "2: Box<i64>; bb0; live _2; _2 = box 1; drop _2; dead _2; _0 = (); if copy _1 0 1; bb1; return", "bb0; _2 = box 1; drop _2; _0 = (); if copy _1 0 1; bb1; return"},
		{"it(c: bool)", "2: Box<i64>; 3: &mut Box<i64>; bb0; live _2; _3 = mut _2; drop _3.*; dead _2; _0 = (); if copy _1 0 1; bb1; return", "bb0; live _2; _3 = mut _2; drop _3.*; _0 = (); if copy _1 0 1; bb1; return"},
		{"it(o: O)", "2: i64; bb0; _2 = tag _1; switch copy _2 0 1 2; bb1; drop _1; _0 = (); return; bb2; drop _1; _0 = (); return", "bb0; _2 = tag _1; switch copy _2 0 1 2; bb1; _0 = (); return; bb2; drop _1; _0 = (); return"},
		{"it(b: Box<i64>)", "2: V; 3: E; bb0; _3 = pick E 0; _2 = make V move _1 move _3; drop _2; _0 = (); return", "bb0; _3 = pick E 0; _2 = make V move _1 move _3; drop _2; _0 = (); return"},
		{"it(b: Box<i64>, c: bool)", "3: Box<i64>; bb0; _3 = move _1; live _3; if copy _2 1 2; bb1; _3 = box 2; goto 2; bb2; drop _3; _0 = (); return", "bb0; live _3; if copy _2 1 2; bb1; _3 = box 2; goto 2; bb2; drop _3; _0 = (); return"},
		{"it(e: E) -> i64", "2: E; 3: i64; bb0; _2 = pick E 0; _3 = tag _2; _2 = move _1; _0 = tag _2; _0 = copy _0 + copy _3; return", "bb0; _2 = move _1; _0 = tag _2; _0 = copy _0 + 0; return"},
		{"it(o: O)", "2: i64; bb0; _2 = tag _1.@1; _1 = pick O 0; switch copy _2 0 1 2; bb1; drop _1.@1; _0 = (); return; bb2; drop _1; _0 = (); return", "bb0; _2 = tag _1.@1; _1 = pick O 0; switch copy _2 0 1 2; bb1; drop _1.@1; _0 = (); return; bb2; _0 = (); return"},
		{"it()", "1: R; 2: E; bb0; _2 = pick E 1 5; _1 = make R move _2 5; drop _1; _0 = (); return", "bb0; _0 = (); return"},
		{"it(e: E) -> i64", "2: i64; 3: i64; 4: i64; bb0; _2 = tag _1; switch copy _2 0 1 2; bb1; _0 = 5; drop _1; return; bb2; _3 = tag _1; switch copy _3 1 3 4; bb3; _0 = copy _1.@1; drop _1; return; bb4; _4 = tag _1; switch copy _4 2 5 6; bb5; _0 = 8; drop _1; return; bb6; panic 103", "bb0; _2 = tag _1; switch copy _2 0 1 1 2 2 3 4; bb1; _0 = 5; return; bb2; _0 = copy _1.@1; return; bb3; _0 = 8; drop _1; return; bb4; panic 103"},
	})
}

// 25.1, 25.2: ways that say nothing, blocks that nothing comes to, tests that do not choose, tests one behind the other; rings that never end stay.
func TestBlocks(t *testing.T) {
	wantRows(t, []shorter{
		{"main()", "bb0; goto 1; bb1; goto 2; bb2; goto 1", "bb0; goto 1; bb1; goto 1"},
		{"main()", "bb0; goto 0", "bb0; goto 0"},
		{"main()", "1: (); bb0; goto 1; bb1; _1 = call print 3 -> 0", "bb0; _1 = call print 3 -> 0"},
		{"main()", "1: (); bb0; _1 = call print 3 -> 1; bb1; goto 0; bb2; goto 3; bb3; return", "bb0; _1 = call print 3 -> 0"},
		{"main()", "1: i64; bb0; _1 = call read -> 1; bb1; switch copy _1 0 0 1 2 3; bb2; goto 3; bb3; goto 4; bb4; _0 = (); return", "bb0; _1 = call read -> 1; bb1; switch copy _1 0 0 2; bb2; _0 = (); return"},
		{"it(c: bool)", "bb0; if copy _1 1 1; bb1; _0 = (); return", "bb0; _0 = (); return"},
		{"it(c: bool)", "bb0; if copy _1 1 2; bb1; goto 3; bb2; goto 3; bb3; _0 = (); return", "bb0; _0 = (); return"},
		{"it(c: bool)", "bb0; if copy _1 1 2; bb1; _0 = (); goto 3; bb2; _0 = (); goto 3; bb3; panic 103", "bb0; panic 103"},
		{"it(n: i64)", "bb0; switch copy _1 1 1 2 1 3 2 1; bb1; _0 = (); return; bb2; panic 103", "bb0; switch copy _1 3 2 1; bb1; _0 = (); return; bb2; panic 103"},
		{"it(n: i64)", "bb0; switch copy _1 1 1 2 1 1; bb1; _0 = (); return", "bb0; _0 = (); return"},
		{"it(n: i64)", "bb0; switch 7 1 1 7 2 3; bb1; panic 101; bb2; _0 = (); return; bb3; panic 102", "bb0; _0 = (); return"},
		{"it(n: i64)", "bb0; switch 8 1 1 7 2 3; bb1; panic 101; bb2; _0 = (); return; bb3; panic 102", "bb0; panic 102"},
		{"it(c: bool)", "bb0; if false 1 2; bb1; panic 101; bb2; _0 = (); return", "bb0; _0 = (); return"},
		{"it(c: bool)", "bb0; if copy _1 1 2; bb1; if copy _1 0 2; bb2; _0 = (); return", "bb0; if copy _1 1 2; bb1; goto 1; bb2; _0 = (); return"},
		{"it(c: bool, n: i64)", "bb0; if copy _1 1 4; bb1; if copy _1 2 3; bb2; if copy _1 1 3; bb3; panic 101; bb4; _0 = (); return", "bb0; if copy _1 1 2; bb1; goto 1; bb2; _0 = (); return"},
		{"it(c: bool, d: bool) -> i64", "3: bool; bb0; if copy _1 1 2; bb1; _3 = copy _2; goto 3; bb2; _3 = false; goto 3; bb3; if copy _3 4 5; bb4; _0 = 1; return; bb5; _0 = 2; return", "bb0; if copy _1 1 3; bb1; if copy _2 2 3; bb2; _0 = 1; return; bb3; _0 = 2; return"},
		{"it(n: i64) -> i64", "bb0; switch copy _1 0 1 2; bb1; _0 = 1; return; bb2; switch copy _1 0 1 1 3 5 3 4; bb3; _0 = 2; return; bb4; _0 = 3; return", "bb0; switch copy _1 0 1 1 2 5 2 3; bb1; _0 = 1; return; bb2; _0 = 2; return; bb3; _0 = 3; return"},
		{"it(n: i64) -> i64", "bb0; switch copy _1 4 1 2; bb1; _0 = 1; return; bb2; switch copy _1 -4 3 4 4 6 3 4; bb3; _0 = 2; return; bb4; _0 = 3; return", "bb0; switch copy _1 -4 2 4 1 6 2 3; bb1; _0 = 1; return; bb2; _0 = 2; return; bb3; _0 = 3; return"},
		{"it(n: i64, m: i64) -> i64", "bb0; switch copy _1 4 1 2; bb1; _0 = 1; return; bb2; switch copy _2 4 4 6 3 4; bb3; _0 = 2; return; bb4; _0 = 3; return", "bb0; switch copy _1 4 1 2; bb1; _0 = 1; return; bb2; switch copy _2 6 3 4; bb3; _0 = 2; return; bb4; _0 = 3; return"},
		{"it(e: &E) -> i64", "2: i64; 3: i64; 4: i64; bb0; _2 = tag _1.*; switch copy _2 0 1 2; bb1; _0 = 5; return; bb2; _3 = tag _1.*; switch copy _3 1 3 4; bb3; _0 = copy _1.*.@1; return; bb4; _4 = tag _1.*; switch copy _4 2 5 6; bb5; _0 = 8; return; bb6; panic 103", "bb0; _2 = tag _1.*; switch copy _2 0 1 1 2 2 3 4; bb1; _0 = 5; return; bb2; _0 = copy _1.*.@1; return; bb3; _0 = 8; return; bb4; panic 103"},
		{"main()", "1: i64; bb0; _1 = call read -> 4; bb1; switch copy _1 2 5 3; bb2; switch copy _1 1 5 1; bb3; goto 2; bb4; switch copy _1 3 5 3; bb5; _0 = (); return", "bb0; _1 = call read -> 2; bb1; switch copy _1 1 3 2 3 1; bb2; switch copy _1 3 3 1; bb3; _0 = (); return"},
		{"it(n: i64) -> i64", "bb0; switch copy _1 3 1 4 2 1; bb1; switch copy _1 3 3 4 3 5 2 3; bb2; _0 = 1; return; bb3; _0 = 2; return", "bb0; switch copy _1 4 1 5 1 2; bb1; _0 = 1; return; bb2; _0 = 2; return"},
		{"it(n: i64) -> i64", "bb0; switch copy _1 3 1 2; bb1; _0 = 1; return; bb2; switch copy _1 7 3 3; bb3; switch copy _1 8 4 5; bb4; _0 = 2; return; bb5; _0 = 3; return", "bb0; switch copy _1 3 1 8 2 3; bb1; _0 = 1; return; bb2; _0 = 2; return; bb3; _0 = 3; return"},
		{"it(n: i64)", "bb0; _0 = (); return; bb1; switch copy _1 1 3 2; bb2; switch copy _1 2 3 1; bb3; return", "bb0; _0 = (); return"},
		{"it(n: i64)", "bb0; _0 = (); return; bb1; goto 2; bb2; goto 1; bb3; _1 = 1; goto 4; bb4; _1 = 2; goto 3", "bb0; _0 = (); return"},
		{"it(c: bool)", "2: S; 3: Box<i64>; bb0; _3 = box 1; _2 = make S 1 move _3; _2.0 = 5; _2.0 = 5 / 0; _0 = (); return", "bb0; panic 102"},
	})
}

// 25.1: what is set by way of a local is set at once, and what is taken by way of one is taken at once, if nobody can tell.
func TestJoins(t *testing.T) {
	wantRows(t, []shorter{
		{"it(a: i64, b: i64) -> i64", "3: i64; bb0; _3 = copy _1 + 1; _2 = copy _2 * 2; _0 = copy _3; return", "bb0; _0 = copy _1 + 1; _2 = copy _2 * 2; return"},
		{"it(a: i64, b: i64) -> i64", "3: i64; bb0; _3 = copy _1 + 1; _0 = copy _2 * 2; _2 = copy _0; _0 = copy _3; return", "bb0; _3 = copy _1 + 1; _0 = copy _2 * 2; _0 = copy _3; return"},
		{"it(a: i64) -> i64", "2: i64; bb0; _2 = copy _1 + 1; _1 = copy _2; if true 1 0; bb1; _0 = copy _1; return", "bb0; _0 = copy _1 + 1; return"},
		{"it(a: i64) -> i64", "2: i64; bb0; _2 = copy _1 + 1; _0 = copy _2; if true 1 0; bb1; _0 = copy _0 * copy _2; return", "bb0; _2 = copy _1 + 1; _0 = copy _2 * copy _2; return"},
		{"it(a: i64) -> i64", "2: i64; 3: &i64; bb0; _3 = ref _0; _2 = copy _1 + 1; _0 = copy _2; return", "bb0; _0 = copy _1 + 1; return"},
		{"it(a: i64) -> i64", "2: i64; 3: &i64; 4: (); 5: i64; bb0; _0 = 1; _3 = ref _0; _2 = copy _1 + 1; _5 = copy _3.*; _0 = copy _2; _4 = call print copy _5 -> 1; bb1; return", "bb0; _0 = 1; _3 = ref _0; _2 = copy _1 + 1; _5 = copy _3.*; _0 = copy _2; _4 = call print copy _5 -> 1; bb1; return"},
		{"it(a: i64) -> i64", "2: i64; bb0; _2 = copy _1 + 1; if true 1 0; bb1; _0 = copy _2; return", "bb0; _0 = copy _1 + 1; return"},
		{"it() -> i64", "1: i64; 2: i64; bb0; _1 = call two 5 3 -> 1; bb1; _2 = copy _1; _0 = copy _2 * 2; return", "bb0; _1 = call two 5 3 -> 1; bb1; _0 = copy _1 * 2; return"},
		{"it(a: i64) -> i64", "2: i64; 3: i64; bb0; _2 = call read -> 1; bb1; _3 = copy _1 + 1; _1 = copy _2; _0 = copy _1 * copy _3; return", "bb0; _2 = call read -> 1; bb1; _3 = copy _1 + 1; _0 = copy _2 * copy _3; return"},
		{"it(c: bool) -> i64", "2: i64; bb0; if copy _1 1 2; bb1; _2 = call read -> 3; bb2; _2 = call two 1 2 -> 3; bb3; _0 = copy _2; return", "bb0; if copy _1 1 2; bb1; _2 = call read -> 3; bb2; _2 = call two 1 2 -> 3; bb3; _0 = copy _2; return"},
		{"it(c: bool, d: bool) -> i64", "3: i64; bb0; if copy _1 1 2; bb1; _3 = call read -> 2; bb2; _0 = copy _3; return", "bb0; if copy _1 1 2; bb1; _3 = call read -> 2; bb2; _0 = copy _3; return"},
		{"it(b: Box<i64>) -> Box<i64>", "2: Box<i64>; bb0; _2 = move _1; _0 = move _2; return", "bb0; _0 = move _1; return"},
		{"it(b: Box<i64>, c: Box<i64>) -> Box<i64>", "3: Box<i64>; bb0; _3 = move _1; drop _2; _2 = move _3; _0 = move _2; return", "bb0; drop _2; _2 = move _1; _0 = move _2; return"},
		{"it(b: Box<i64>)", "2: Box<i64>; bb0; _2 = move _1; _0 = call take move _2 -> 1; bb1; return", "bb0; _0 = call take move _1 -> 1; bb1; return"},
		{"it(b: Box<i64>)", "2: Box<i64>; bb0; _2 = move _1; _1 = box 3; _0 = call take move _2 -> 1; bb1; drop _1; return", "bb0; _2 = move _1; _1 = box 3; _0 = call take move _2 -> 1; bb1; drop _1; return"},
		{"it(b: Box<Box<i64>>)", "2: Box<i64>; bb0; _2 = move _1.*; _0 = call take move _2 -> 1; bb1; free _1; return", "bb0; _0 = call take move _1.* -> 1; bb1; free _1; return"},
		{"it(b: Box<Box<i64>>)", "2: Box<i64>; 3: Box<i64>; bb0; _2 = move _1.*; _3 = box 4; _1.* = move _3; _0 = call take move _2 -> 1; bb1; drop _1; return", "bb0; _2 = move _1.*; _3 = box 4; _1.* = move _3; _0 = call take move _2 -> 1; bb1; drop _1; return"},
		{"it(b: Box<Box<i64>>, c: Box<i64>)", "3: Box<i64>; 4: Box<i64>; bb0; _3 = move _1.*; _4 = move _2; _0 = call pair move _4 move _3 -> 1; bb1; free _1; return", "bb0; _0 = call pair move _2 move _1.* -> 1; bb1; free _1; return"},
		{"it(b: &mut S, c: &mut S)", "3: Box<i64>; 4: Box<i64>; bb0; _3 = move _1.*.1; _4 = move _2.*.1; _0 = call pair move _3 move _4 -> 1; bb1; return", "bb0; _3 = move _1.*.1; _0 = call pair move _3 move _2.*.1 -> 1; bb1; return"},
		{"it(s: S) -> S", "2: Box<i64>; 3: i64; bb0; _3 = copy _1.0; _2 = move _1.1; _0 = make S copy _3 move _2; return", "bb0; _0 = make S copy _1.0 move _1.1; return"},
		{"it(s: S, t: S)", "3: Box<i64>; bb0; _3 = move _1.1; _2 = make S copy _1.0 move _3; drop _2; _0 = (); return", "bb0; _3 = move _1.1; _2 = make S copy _1.0 move _3; drop _2; _0 = (); return"},
	})
}
