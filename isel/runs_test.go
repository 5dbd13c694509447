package isel

import (
	"math"
	"slices"
	"strconv"
	"strings"
	"testing"

	"patina/api"
	"patina/lir"
	"patina/mirtest"
)

// Example 1: a block is told, written, read, printed from, and given back.
func TestExample(t *testing.T) {
	m := programOf(t, "1: Box<i64>; 2: i64; 3: (); bb0; _1 = box 5; _2 = copy _1.*; _3 = call print copy _2 -> 1; bb1; drop _1; _0 = (); return")
	var words []string
	for _, line := range strings.Split(lirText(madeOf(t, m)), "\n") {
		switch x := strings.Fields(line); {
		case len(x) > 2 && x[0] == "call":
			words = append(words, x[2])
		case len(x) > 0 && (x[0] == "store" || x[0] == "load"):
			words = append(words, x[0])
		}
	}
	if !slices.Equal(words, []string{"rt.alloc", "store", "load", "rt.print", "rt.free"}) {
		t.Error(words)
	}
}

// 26.1: each operation of numbers at their edges, of constants and of what is not known.
func TestOperations(t *testing.T) {
	numbers := []int64{0, 1, -1, 2, 7, -7, 3037000500, 1 << 32, math.MaxInt64, math.MinInt64, math.MinInt64 + 1, math.MaxInt64 - 1}
	text := func(n int64) string { return strconv.FormatInt(n, 10) }
	for _, a := range numbers {
		for _, b := range numbers {
			for _, op := range []string{"+", "-", "*", "/", "%"} {
				for _, s := range []string{text(a) + " " + op + " " + text(b), "copy _1 " + op + " " + text(b), text(a) + " " + op + " copy _2", "copy _1 " + op + " copy _2"} {
					m := programOf(t, "1: i64; 2: i64; 3: i64; 4: (); bb0; _1 = "+text(a)+"; _2 = "+text(b)+"; _3 = "+s+"; _4 = call print copy _3 -> 1; bb1; _0 = (); return")
					if ran(t, m, madeOf(t, m), nil) != same {
						t.Error(s)
					}
				}
			}
		}
	}
	for _, a := range numbers {
		row := "1: i64; 2: bool; 3: (); 4: i64; 5: i64; bb0; _4 = " + text(a)
		count := 0
		for _, b := range numbers {
			for _, op := range []string{"<", "<=", ">", ">=", "==", "!="} {
				row += "; _5 = " + text(b) + "; _2 = copy _4 " + op + " copy _5; if copy _2 " + strconv.Itoa(count+1) + " " + strconv.Itoa(count+2) + "; bb; _3 = call print 1 -> " + strconv.Itoa(count+2) + "; bb"
				count += 2
			}
		}
		wantSame(t, []string{row + "; _1 = neg copy _4; _3 = call print copy _1 -> " + strconv.Itoa(count+1) + "; bb; _0 = (); return"})
	}
}

// 26.1: which of several things ends the program first; what was printed ahead of that; and what is not done any more.
func TestFirstEnd(t *testing.T) {
	const head = "1: i64; 2: i64; 3: i64; 4: (); 5: &i64; 6: Box<i64>; bb0; _1 = 0; _2 = 9223372036854775807; "
	const over, nought, least = "_3 = copy _2 + copy _2; ", "_3 = copy _2 / copy _1; ", "_3 = -9223372036854775808 / -1; "
	var rows []string
	for _, s := range []string{over, nought, least, over + nought, nought + over, nought + nought + over, over + over + nought, least + nought, nought + least, "_3 = neg -9223372036854775808; " + nought, "_3 = copy _2 % copy _1; " + over, "_3 = copy _2 * copy _2; " + nought, "_3 = copy _2 - -1; " + nought, "_3 = copy _2 + 0; _3 = 5 / 5; _3 = -9223372036854775808 % 1; " + nought + over, "_3 = 1 / 0; " + over, "_3 = -9223372036854775808 % -1; " + nought} {
		rows = append(rows, head+s+"_0 = (); return", head+s+"_4 = call print 1 -> 1; bb1; "+nought+"_0 = (); return", head+"_4 = call print 1 -> 1; bb1; "+s+"_4 = call print 2 -> 2; bb2; _0 = (); return", head+s+"goto 1; bb1; goto 1", head+s+"_3 = call two 1 2 -> 1; bb1; _4 = call print copy _3 -> 2; bb2; panic 103", head+s+"panic 103", head+s+"switch copy _1 0 1 2; bb1; goto 1; bb2; return", head+s+"switch copy _1 1 1 2; bb1; goto 1; bb2; goto 2", head+s+"if true 1 2; bb1; goto 1; bb2; goto 2", head+s+"if false 1 2; bb1; goto 1; bb2; goto 2")
	}
	// What comes behind the end would be undefined, if anything came there.
	rows = append(rows, head+over+"_5 = ref _6.*; _3 = copy _5.*; _4 = call print 1 -> 1; bb1; return", head+nought+"_6 = box 1; drop _6; _3 = copy _6.*; return", head+over+"free _6; return", head+over+"_3 = copy _5.*; _3 = copy _3 + 1; _5.* = copy _3; return", head+over+"drop _6; drop _6; return")
	wantSame(t, rows)
	const fine = "_3 = copy _2 - 1; _3 = copy _3 + 1; _3 = copy _3 / 3; _3 = copy _3 % -1; _3 = -9223372036854775807 - 1; _3 = copy _3 + copy _2; _3 = copy _3 * copy _2; "
	wantSame(t, []string{head + fine + "_0 = (); return", head + fine + "_4 = call print copy _3 -> 1; bb1; " + fine + over + "_0 = (); return", head + fine + "panic 103", head + fine + nought + "_0 = (); return"})
}

// 26.1: truths, and tests of them.
func TestTruths(t *testing.T) {
	wantSame(t, []string{
		"1: bool; 2: bool; 3: i64; 4: (); bb0; _3 = call read -> 1; bb1; _1 = copy _3 == 65; _2 = not copy _1; if copy _2 2 3; bb2; _4 = call print 1 -> 3; bb3; _2 = copy _1 == copy _2; if copy _2 4 5; bb4; _4 = call print 2 -> 5; bb5; _2 = call truth copy _1 -> 6; bb6; _1 = copy _2 != true; if copy _1 7 8; bb7; _4 = call print 3 -> 8; bb8; if true 9 7; bb9; _0 = (); return",
		"1: Q; 2: &mut Q; 3: i64; 4: (); bb0; _3 = call read -> 1; bb1; _1 = make Q 1 2 true; _1.2 = copy _3 > 65; _2 = mut _1; if copy _2.*.2 2 3; bb2; _4 = call print 1 -> 3; bb3; _2.*.2 = not copy _2.*.2; if copy _1.2 4 5; bb4; _4 = call print 2 -> 5; bb5; _0 = (); return",
	}, []byte("A"), []byte("B"), nil)
	tell := "; if copy _3 1 2; bb1; _4 = call print 1 -> 3; bb2; _4 = call print 2 -> 3; bb3; _5 = not copy _3; if copy _5 4 5; bb4; _4 = call print 3 -> 6; bb5; _4 = call print 4 -> 6; bb6; _5 = copy _3 == false; if copy _5 7 8; bb7; _4 = call print 5 -> 9; bb8; if copy _2.* 10 9; bb9; _0 = (); return; bb10; _4 = call print 6 -> 9"
	ahead := "1: X; 2: &bool; 3: bool; 4: (); 5: bool; bb0; _1 = pick X 1 true; _2 = ref _1.@1; "
	wantSame(t, []string{ // a word that was set as a number, and is taken for a truth
		ahead + "_3 = copy _2.*" + tell, ahead + "_1 = pick X 0 7; _3 = copy _2.*" + tell, ahead + "_1 = pick X 0 1; _3 = copy _2.*" + tell, ahead + "_1 = pick X 0 0; _3 = copy _2.*" + tell,
		"1: X; 2: &bool; 3: bool; 4: (); 5: i64; 6: &mut bool; 7: bool; bb0; _7 = true; _6 = mut _7; _1 = pick X 1 true; _2 = ref _1.@1; _1 = pick X 0 7; _5 = call ask copy _2.* -> 1; bb1; _4 = call print copy _5 -> 2; bb2; _3 = call tell copy _2 -> 3; bb3; if copy _3 4 5; bb4; _4 = call print 3 -> 5; bb5; _6.* = copy _3; if copy _7 6 7; bb6; _4 = call print 4 -> 7; bb7; _0 = (); return",
	})
}

// 26.1: structs within structs, tags and payloads, in registers and in frames; what is set to a part of itself.
func TestParts(t *testing.T) {
	rows := []string{
		"1: Q; 2: i64; 3: (); bb0; _1 = make Q 1 2 true; _1 = make Q copy _1.1 copy _1.0 copy _1.2; _3 = call print copy _1.0 -> 1; bb1; _3 = call print copy _1.1 -> 2; bb2; _1 = call flip move _1 -> 3; bb3; _3 = call print copy _1.0 -> 4; bb4; if copy _1.2 5 6; bb5; _3 = call print 9 -> 6; bb6; _0 = (); return",
		"1: W; 2: i64; 3: (); 4: Q; bb0; _1 = call whole 4 -> 1; bb1; _4 = move _1.0; _1.0 = move _1.2; _1.2 = move _4; _3 = call print copy _1.0.1 -> 2; bb2; _3 = call print copy _1.2.0 -> 3; bb3; _3 = call print copy _1.4.@1 -> 4; bb4; _2 = copy _1.3.1.* * 100; _3 = call print copy _2 -> 5; bb5; drop _1; _0 = (); return",
		"1: E; 2: i64; 3: (); 4: Q; bb0; _1 = pick E 0; _2 = tag _1; _3 = call print copy _2 -> 1; bb1; _4 = make Q 5 6 true; _1 = pick E 4 move _4; _2 = tag _1; _3 = call print copy _2 -> 2; bb2; _1.@4.1 = copy _1.@4.0 + 10; _3 = call print copy _1.@4.1 -> 3; bb3; _4 = move _1.@4; _1 = pick E 1 copy _4.0; _3 = call print copy _1.@1 -> 4; bb4; _0 = (); return",
		"1: O; 2: E; 3: (); 4: i64; 5: Box<i64>; bb0; _5 = box 3; _2 = pick E 2 move _5; _1 = pick O 1 move _2; _4 = tag _1.@1; _3 = call print copy _4 -> 1; bb1; _3 = call print copy _1.@1.@2.* -> 2; bb2; drop _1; _1 = pick O 0; drop _1; _0 = (); return",
		"1: Q; 2: i64; 3: (); bb0; _1 = make Q 1 2 true; _2 = 3; _1 = make Q copy _2 copy _1.0 copy _1.2; _3 = call print copy _1.1 -> 1; bb1; _1 = make Q copy _1.1 copy _2 false; _3 = call print copy _1.0 -> 2; bb2; _3 = call print copy _1.1 -> 3; bb3; _0 = (); return",
		"1: N; 2: (); 3: (); 4: U; 5: i64; bb0; _1 = make N; _1 = call nothing copy _2 move _1 -> 1; bb1; _4 = make U () 5 copy _2; _4 = call unit move _4 -> 2; bb2; _3 = call print copy _4.1 -> 3; bb3; _2 = copy _4.2; _0 = copy _2; return",
		"1: P; 2: E; 3: D; 4: L; 5: Box<i64>; 6: Box<S>; 7: S; 8: (); 9: i64; bb0; _2 = pick E 1 4; _5 = box 1; _7 = make S 2 move _5; _6 = box move _7; _5 = box 3; _3 = make D move _5 move _6; _4 = call list 3 -> 1; bb1; _1 = make P move _2 move _3 move _4; _8 = call print copy _1.1.1.*.1.* -> 2; bb2; _8 = call print copy _1.2.@1.0 -> 3; bb3; _8 = call print copy _1.0.@1 -> 4; bb4; drop _1; _0 = (); return",
	}
	wantSame(t, rows)
	wantNothingLeft(t, rows)
}

// 26.1: references into locals, fields, payloads, Boxes, and what is told by calls; parts without words.
func TestReferences(t *testing.T) {
	rows := []string{
		"1: i64; 2: &mut i64; 3: &i64; 4: (); bb0; _1 = 5; _2 = mut _1; _2.* = copy _2.* + 1; _4 = call put move _2 8 -> 1; bb1; _4 = call print copy _1 -> 2; bb2; _3 = ref _1; _4 = call print copy _3.* -> 3; bb3; _0 = (); return",
		"1: W; 2: &mut i64; 3: &Q; 4: (); 5: i64; 6: &mut E; 7: &mut i64; bb0; _1 = call whole 6 -> 1; bb1; _2 = mut _1.1.0; _2.* = 40; _3 = ref _1.1; _5 = call look copy _3 -> 2; bb2; _4 = call print copy _5 -> 3; bb3; _6 = mut _1.4; _7 = mut _6.*.@1; _7.* = copy _7.* + 1; _4 = call print copy _1.4.@1 -> 4; bb4; _6.* = pick E 0; _5 = tag _1.4; _4 = call print copy _5 -> 5; bb5; drop _1; _0 = (); return",
		"1: Box<W>; 2: W; 3: &mut S; 4: &mut Box<i64>; 5: (); bb0; _2 = call whole 2 -> 1; bb1; _1 = box move _2; _3 = mut _1.*.3; _4 = call pass move _3 -> 2; bb2; drop _4.*; _4.* = box 12; _5 = call print copy _1.*.3.1.* -> 3; bb3; _4.*.* = copy _1.*.0.1; _5 = call print copy _1.*.3.1.* -> 4; bb4; drop _1; _0 = (); return",
		"1: (); 2: &(); 3: U; 4: &U; 5: &(); 6: N; 7: &N; 8: Box<()>; 9: &mut (); bb0; _1 = (); _2 = ref _1; _1 = copy _2.*; _3 = make U () 7 (); _4 = ref _3; _5 = ref _4.*.2; _1 = copy _5.*; _6 = make N; _7 = ref _6; _8 = box (); _9 = mut _8.*; _9.* = (); _1 = call print copy _4.*.1 -> 1; bb1; drop _8; _0 = (); return",
		"1: L; 2: &L; 3: i64; 4: (); 5: &mut M; 6: &i64; bb0; _1 = call list 5 -> 1; bb1; _2 = ref _1; _3 = call sum copy _2 -> 2; bb2; _4 = call print copy _3 -> 3; bb3; _5 = mut _1.@1.1.*.@1; _5.*.0 = 100; _6 = ref _5.*.1.*.@1.0; _4 = call print copy _6.* -> 4; bb4; _3 = call sum copy _2 -> 5; bb5; _4 = call print copy _3 -> 6; bb6; drop _1; _0 = (); return",
		"1: i64; 2: i64; 3: &i64; 4: i64; 5: (); bb0; _1 = 0; _3 = ref _1; goto 1; bb1; live _2; _2 = copy _1 * 3; _3 = ref _2; _5 = call print copy _3.* -> 2; bb2; dead _2; _1 = copy _1 + 1; switch copy _1 3 3 1; bb3; _0 = (); return",
	}
	wantSame(t, rows)
	wantNothingLeft(t, rows)
}

// 26.1: Boxes of each type: made, read, moved out of, dropped whole, in part, and freed.
func TestBoxes(t *testing.T) {
	rows := []string{
		"1: Box<bool>; 2: Box<()>; 3: Box<N>; 4: Box<Box<i64>>; 5: Box<i64>; 6: Box<E>; 7: E; 8: (); 9: bool; 10: N; bb0; _1 = box true; _2 = box (); _10 = make N; _3 = box move _10; _5 = box 6; _4 = box move _5; _7 = pick E 1 8; _6 = box move _7; if copy _1.* 1 2; bb1; _8 = call print copy _4.*.* -> 2; bb2; _8 = call print copy _6.*.@1 -> 3; bb3; _8 = copy _2.*; _10 = move _3.*; free _3; drop _1; drop _2; drop _4; drop _6; _0 = (); return",
		"1: Box<S>; 2: S; 3: Box<i64>; 4: (); bb0; _3 = box 1; _2 = make S 2 move _3; _1 = box move _2; _3 = move _1.*.1; _4 = call print copy _3.* -> 1; bb1; _4 = call print copy _1.*.0 -> 2; bb2; drop _3; free _1; _0 = (); return",
		"1: Box<S>; 2: S; 3: Box<i64>; 4: (); bb0; _3 = box 1; _2 = make S 2 move _3; _1 = box move _2; _2 = move _1.*; free _1; _4 = call print copy _2.1.* -> 1; bb1; drop _2.1; _0 = (); return",
		"1: Box<Box<Box<Box<i64>>>>; 2: Box<Box<Box<i64>>>; 3: Box<Box<i64>>; 4: Box<i64>; 5: (); bb0; _4 = box 1; _3 = box move _4; _2 = box move _3; _1 = box move _2; _1.*.*.*.* = copy _1.*.*.*.* + 1; _5 = call print copy _1.*.*.*.* -> 1; bb1; _4 = move _1.*.*.*; drop _4; free _1.*.*; drop _1.*; free _1; _0 = (); return",
		"1: Box<Box<S>>; 2: Box<S>; 3: S; 4: Box<i64>; bb0; _4 = box 1; _3 = make S 5 move _4; _2 = box move _3; _1 = box move _2; drop _1; _0 = (); return",
		"1: G; 2: Box<G>; 3: (); bb0; _1 = call branch 5 -> 1; bb1; _3 = call print copy _1.@1.0.*.@1.2.* -> 2; bb2; _2 = box move _1; drop _2; _1 = call branch 6 -> 3; bb3; drop _1; _0 = (); return",
		"1: T; 2: K; 3: L; bb0; _1 = call tree 4 -> 1; bb1; drop _1; _2 = call chain 9 -> 2; bb2; drop _2; _3 = call list 9 -> 3; bb3; drop _3; _0 = (); return",
		"1: Box<T>; 2: Box<K>; 3: Box<J>; 4: T; 5: K; 6: (); bb0; _4 = call tree 3 -> 1; bb1; _1 = box move _4; _5 = call chain 4 -> 2; bb2; _3 = move _5.@1; _6 = call print copy _3.*.0 -> 3; bb3; _2 = box move _3.*.1; free _3; drop _2; drop _1; _0 = (); return",
		"1: Box<i64>; 2: Box<i64>; 3: (); bb0; _1 = call give 4 -> 1; bb1; _2 = move _1; _1 = box 5; _3 = call take move _2 -> 2; bb2; _3 = call print copy _1.* -> 3; bb3; drop _1; _0 = (); return",
	}
	wantSame(t, rows)
	wantNothingLeft(t, rows)
}

// 26.1: where something of what is dropped is gone, or was never there, what is there is dropped alone: each block once, and all of them.
func TestGoneParts(t *testing.T) {
	const s = "1: S; 2: Box<i64>; 3: (); 4: D; 5: Box<S>; 6: E; 7: i64; 8: &mut S; 9: Box<D>; 10: Box<i64>; 11: P; bb0; _2 = box 1; _1 = make S 2 move _2; "
	rows := []string{
		"1: Box<Box<i64>>; 2: Box<i64>; 3: &mut Box<i64>; bb0; _2 = box 1; _1 = box move _2; _3 = mut _1.*; _2 = move _3.*; drop _1; drop _2; _0 = (); return", "1: Box<Box<S>>; 2: Box<S>; 3: &mut Box<S>; 4: S; 5: Box<i64>; bb0; _5 = box 1; _4 = make S 2 move _5; _2 = box move _4; _1 = box move _2; _3 = mut _1.*; _2 = move _3.*; drop _1; drop _2; _0 = (); return",
		s + "_2 = move _1.1; drop _1; drop _2; _0 = (); return", s + "drop _1.1; drop _1; drop _1; _0 = (); return", s + "drop _2; drop _1; _0 = (); return", s + "free _1.1; drop _1; _0 = (); return",
		s + "_7 = call read -> 1; bb1; switch copy _7 -1 2 3; bb2; _2 = move _1.1; drop _2; goto 3; bb3; drop _1; _0 = (); return", s + "_8 = mut _1; _2 = move _8.*.1; drop _1; drop _2; _0 = (); return", s + "_8 = mut _1; drop _8.*; drop _1; drop _8.*.1; _0 = (); return", s + "_8 = mut _1; drop _1.1; drop _8.*; _0 = (); return",
		s + "_10 = box 7; _5 = box move _1; _4 = make D move _10 move _5; _10 = move _4.0; drop _4; drop _10; _0 = (); return", s + "_10 = box 7; _5 = box move _1; _4 = make D move _10 move _5; _2 = move _4.1.*.1; drop _2; drop _4; _0 = (); return", s + "_10 = box 7; _5 = box move _1; _4 = make D move _10 move _5; _9 = box move _4; _2 = move _9.*.0; drop _9; drop _2; _0 = (); return", s + "_10 = box 7; _5 = box move _1; _4 = make D move _10 move _5; _9 = box move _4; _4 = move _9.*; drop _4; drop _9; _0 = (); return",
		"1: E; 2: S; 3: Box<i64>; bb0; drop _1; _3 = box 2; _2 = make S 1 move _3; _1 = pick E 3 move _2; _3 = move _1.@3.1; drop _1; drop _3; drop _1; _3 = box 3; _1 = pick E 2 move _3; _3 = move _1.@2; drop _1; drop _3; _0 = (); return", "1: E; 2: S; 3: Box<i64>; 4: E; bb0; _3 = box 2; _1 = pick E 2 move _3; _4 = move _1; drop _1; drop _4; _0 = (); return", "1: E; 2: Box<i64>; 3: &mut E; 4: E; bb0; _2 = box 2; _1 = pick E 2 move _2; _3 = mut _1; _4 = move _3.*; drop _1; drop _3.*; drop _4; _0 = (); return",
		"1: Z; 2: Box<i64>; 3: Z; 4: &mut Z; bb0; _2 = box 2; _1 = pick Z 0 move _2; _3 = move _1; drop _1; drop _3; drop _3; _2 = box 3; _1 = pick Z 0 move _2; _4 = mut _1; _3 = move _4.*; drop _4.*; drop _3; _0 = (); return",
		"1: i64; 2: Box<i64>; bb0; _1 = 0; goto 1; bb1; live _2; switch copy _1 1 2 3 3 2; bb2; _2 = box 2; goto 3; bb3; drop _2; dead _2; _1 = copy _1 + 1; switch copy _1 5 4 1; bb4; _0 = (); return", "1: i64; 2: E; 3: Box<i64>; bb0; _1 = 0; goto 1; bb1; live _2; switch copy _1 1 2 3 3 2; bb2; _3 = box 2; _2 = pick E 2 move _3; goto 3; bb3; drop _2; dead _2; _1 = copy _1 + 1; switch copy _1 5 4 1; bb4; _0 = (); return", "1: W; 2: Box<i64>; bb0; _2 = box 4; _1.3.1 = move _2; drop _1; _1 = call whole 1 -> 1; bb1; _2 = move _1.3.1; drop _1; drop _2; _0 = (); return",
	}
	wantSame(t, rows)
	wantNothingLeft(t, rows)
	wantSame(t, []string{ // what a local had is nobody's when another one begins in its place
		"1: Box<i64>; 2: &i64; 3: (); bb0; _1 = box 5; _2 = ref _1.*; live _1; drop _1; _3 = call print copy _2.* -> 1; bb1; _0 = (); return", "1: Z; 2: Box<i64>; 3: &i64; 4: (); bb0; _2 = box 5; _3 = ref _2.*; _1 = pick Z 0 move _2; live _1; drop _1; _4 = call print copy _3.* -> 1; bb1; _0 = (); return", "1: Box<i64>; 2: &i64; 3: (); 4: &mut Box<i64>; bb0; _1 = box 5; _2 = ref _1.*; live _1; _4 = mut _1; drop _4.*; _3 = call print copy _2.* -> 1; bb1; _0 = (); return",
	})
}

// wantNothingLeft holds what is made of mains to ending all blocks that they make: they may be called more often than the heap has words.
func wantNothingLeft(t *testing.T, rows []string) {
	t.Helper()
	for _, row := range rows {
		b := bench()
		b.Helpers = append(b.Helpers, [2]string{"once()", row})
		it, right := b.Items("main()")
		m, is := b.Program(it, mirtest.Lines("1: i64; 2: bool; 3: (); bb0; _1 = 0; goto 1; bb1; _2 = copy _1 <= "+strconv.Itoa(lir.HeapWords)+"; if copy _2 2 3; bb2; _1 = copy _1 + 1; _3 = call once -> 1; bb3; _0 = (); return"))
		if !right || !is {
			t.Fatal(row)
		}
		if o, e := lir.Run(madeOf(t, m), nil, 1<<40); e != api.OK || o.End != api.EndDone || o.Code != api.ExitDone {
			t.Errorf("%s: %v %v", row, o.End, o.Code)
		}
	}
}
