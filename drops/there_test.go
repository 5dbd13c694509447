package drops

import "testing"

// wantThere holds rows to what drops become: each row has the type of a parameter, and drops of it and of its parts, one behind the other.
func wantThere(t *testing.T, rows [][3]string) {
	t.Helper()
	var l []made
	for _, c := range rows {
		l = append(l, made{head: "it(p: " + c[0] + ")", row: "bb0; _0 = (); " + c[1] + "; return", want: "bb0; _0 = (); " + c[2] + "return"})
	}
	wantMade(t, l)
}

// 23.1: what is there as a whole is dropped as a whole; what is gone is not dropped, nor what is within it.
func TestWholeOrGone(t *testing.T) {
	wantThere(t, [][3]string{
		{"Box<i64>", "drop _1", "drop _1; "}, {"S", "drop _1", "drop _1; "}, {"P", "drop _1", "drop _1; "}, {"E", "drop _1", "drop _1; "}, {"L", "drop _1", "drop _1; "}, {"Box<L>", "drop _1", "drop _1; "}, {"Box<P>", "drop _1", "drop _1; "}, {"&mut S", "drop _1.*", "drop _1.*; "}, {"&Box<i64>", "drop _1.*", "drop _1.*; "}, {"S", "drop _1.1", "drop _1.1; "}, {"P", "drop _1.3.0", "drop _1.3.0; "}, {"E", "drop _1.@2.1", "drop _1.@2.1; "}, {"Box<S>", "drop _1.*.1", "drop _1.*.1; "}, {"Box<()>", "drop _1", "drop _1; "}, {"Box<N>", "drop _1", "drop _1; "},
		{"Box<i64>", "drop _1; drop _1", "drop _1; "}, {"Box<S>", "drop _1; drop _1.*", "drop _1; "}, {"Box<S>", "drop _1; drop _1.*.1", "drop _1; "}, {"P", "drop _1.3; drop _1.3.1; drop _1.3.0", "drop _1.3; "}, {"P", "drop _1; drop _1.1; drop _1.1.@2; drop _1.1.@2.1", "drop _1; "}, {"E", "drop _1.@2; drop _1.@2.1", "drop _1.@2; "}, {"&mut D", "drop _1.*; drop _1.*.0", "drop _1.*; "}, {"Box<i64>", "free _1; drop _1", "free _1; "}, {"Box<D>", "free _1; drop _1; drop _1.*; drop _1.*.1", "free _1; "}, {"D", "dead _1; drop _1; drop _1.0", "dead _1; "}, {"D", "live _1; drop _1; drop _1.0", "live _1; "},
	})
}

// 23.1: of a struct its fields, in order, but what is gone and what does not own.
func TestStructs(t *testing.T) {
	wantThere(t, [][3]string{
		{"D", "drop _1.0; drop _1", "drop _1.0; drop _1.1; "}, {"D", "drop _1.1; drop _1", "drop _1.1; drop _1.0; "}, {"D", "drop _1.1; drop _1.0; drop _1", "drop _1.1; drop _1.0; "}, {"S", "drop _1.1; drop _1", "drop _1.1; "}, {"T", "drop _1.1; drop _1", "drop _1.1; drop _1.0; drop _1.2; "}, {"T", "drop _1.2; drop _1.0; drop _1", "drop _1.2; drop _1.0; drop _1.1; "}, {"T", "drop _1.2; drop _1; drop _1.0; drop _1", "drop _1.2; drop _1.0; drop _1.1; "},
		{"P", "drop _1.0; drop _1", "drop _1.0; drop _1.1; drop _1.3; drop _1.4; "}, {"P", "drop _1.1; drop _1", "drop _1.1; drop _1.0; drop _1.3; drop _1.4; "}, {"P", "drop _1.3; drop _1", "drop _1.3; drop _1.0; drop _1.1; drop _1.4; "}, {"P", "drop _1.4; drop _1", "drop _1.4; drop _1.0; drop _1.1; drop _1.3; "},
		{"P", "drop _1.0.1; drop _1", "drop _1.0.1; drop _1.1; drop _1.3; drop _1.4; "}, {"P", "drop _1.3.1; drop _1", "drop _1.3.1; drop _1.0; drop _1.1; drop _1.3.0; drop _1.4; "}, {"P", "drop _1.3.0; drop _1.3.1; drop _1", "drop _1.3.0; drop _1.3.1; drop _1.0; drop _1.1; drop _1.4; "}, {"P", "drop _1.3.0; drop _1.3; drop _1", "drop _1.3.0; drop _1.3.1; drop _1.0; drop _1.1; drop _1.4; "},
		{"P", "drop _1.4.*; drop _1", "drop _1.4.*; drop _1.0; drop _1.1; drop _1.3; free _1.4; "}, {"P", "free _1.4; drop _1", "free _1.4; drop _1.0; drop _1.1; drop _1.3; "}, {"P", "drop _1.1.@2.1; drop _1", "drop _1.1.@2.1; drop _1.0; drop _1.3; drop _1.4; "}, {"&mut T", "drop _1.*.1; drop _1.*", "drop _1.*.1; drop _1.*.0; drop _1.*.2; "},
		{"D", "drop _1.0; _1.0 = box 1; drop _1", "drop _1.0; _1.0 = box 1; drop _1; "}, {"D", "drop _1.0; drop _1.1; _1.0 = box 1; drop _1", "drop _1.0; drop _1.1; _1.0 = box 1; drop _1.0; "}, {"D", "drop _1; _1.0 = box 1; drop _1", "drop _1; _1.0 = box 1; "},
	})
}

// 23.1: of a Box what is there behind it, then the Box alone.
func TestBoxes(t *testing.T) {
	wantThere(t, [][3]string{
		{"Box<D>", "drop _1.*; drop _1", "drop _1.*; free _1; "}, {"Box<D>", "drop _1.*.0; drop _1", "drop _1.*.0; drop _1.*.1; free _1; "}, {"Box<D>", "drop _1.*.1; drop _1.*.0; drop _1", "drop _1.*.1; drop _1.*.0; free _1; "}, {"Box<S>", "drop _1.*.1; drop _1", "drop _1.*.1; free _1; "}, {"Box<Box<i64>>", "drop _1.*; drop _1", "drop _1.*; free _1; "}, {"Box<Box<i64>>", "free _1.*; drop _1", "free _1.*; free _1; "}, {"Box<Box<Box<i64>>>", "drop _1.*.*; drop _1", "drop _1.*.*; free _1.*; free _1; "}, {"Box<Box<D>>", "drop _1.*.*.0; drop _1", "drop _1.*.*.0; drop _1.*.*.1; free _1.*; free _1; "}, {"Box<Box<D>>", "drop _1.*.*.0; drop _1.*; drop _1", "drop _1.*.*.0; drop _1.*.*.1; free _1.*; free _1; "},
		{"Box<P>", "drop _1.*.4.*; drop _1", "drop _1.*.4.*; drop _1.*.0; drop _1.*.1; drop _1.*.3; free _1.*.4; free _1; "}, {"Box<E>", "drop _1.*.@2; drop _1", "drop _1.*.@2; free _1; "}, {"Box<L>", "drop _1.*.@1.*; drop _1", "drop _1.*.@1.*; free _1.*.@1; free _1; "}, {"Box<D>", "drop _1.*; _1.* = call give -> 1; bb1; drop _1", "drop _1.*; _1.* = call give -> 1; bb1; drop _1; "}, {"&mut Box<D>", "drop _1.*.*.0; drop _1.*", "drop _1.*.*.0; drop _1.*.*.1; free _1.*; "},
	})
}

// 23.1: of an enum what is there behind the greatest of the numbers that something is gone behind.
func TestEnums(t *testing.T) {
	wantThere(t, [][3]string{
		{"E", "drop _1.@2; drop _1", "drop _1.@2; "}, {"E", "drop _1.@2.1; drop _1", "drop _1.@2.1; "}, {"X", "drop _1.@1; drop _1", "drop _1.@1; "}, {"X", "drop _1.@2.*; drop _1", "drop _1.@2.*; free _1.@2; "}, {"X", "drop _1.@2.*.1; drop _1", "drop _1.@2.*.1; free _1.@2; "}, {"X", "drop _1.@4.0; drop _1", "drop _1.@4.0; drop _1.@4.1; "}, {"X", "drop _1.@3.@2; drop _1", "drop _1.@3.@2; "}, {"L", "drop _1.@1.*; drop _1", "drop _1.@1.*; free _1.@1; "}, {"L", "drop _1.@1.*.@1.*; drop _1", "drop _1.@1.*.@1.*; free _1.@1.*.@1; free _1.@1; "},
		{"X", "drop _1.@2.*; drop _1.@4.0; drop _1", "drop _1.@2.*; drop _1.@4.0; free _1.@2; "}, {"X", "drop _1.@4.0; drop _1.@2.*; drop _1", "drop _1.@4.0; drop _1.@2.*; free _1.@2; "}, {"X", "drop _1.@4.0; drop _1.@1; drop _1", "drop _1.@4.0; drop _1.@1; "}, {"X", "drop _1.@4.1; drop _1.@3; drop _1", "drop _1.@4.1; drop _1.@3; "}, {"X", "drop _1.@4.1; drop _1.@4.0; drop _1.@3.@2.1; drop _1", "drop _1.@4.1; drop _1.@4.0; drop _1.@3.@2.1; "}, {"Y", "drop _1.@0.@4.1; drop _1", "drop _1.@0.@4.1; drop _1.@0.@4.0; "}, {"Y", "drop _1.@0.@4.1; drop _1.@0.@2.*.1; drop _1", "drop _1.@0.@4.1; drop _1.@0.@2.*.1; free _1.@0.@2; "},
		{"&mut X", "drop _1.*.@4.0; drop _1.*", "drop _1.*.@4.0; drop _1.*.@4.1; "}, {"Box<X>", "drop _1.*.@4.0; drop _1", "drop _1.*.@4.0; drop _1.*.@4.1; free _1; "}, {"X", "drop _1.@4.0; _1.@4.0 = box 1; drop _1", "drop _1.@4.0; _1.@4.0 = box 1; drop _1; "},
	})
}

// 23.1: a part is gone by a move, in an operand of any kind, too; what is moved in again is there.
func TestMovedParts(t *testing.T) {
	wantMade(t, []made{
		{"it(d: D)", "2: Box<i64>; 3: D; bb0; _0 = (); _2 = move _1.0; drop _1; drop _2; return", "bb0; _0 = (); _2 = move _1.0; drop _1.1; drop _2; return", ""},
		{"it(d: D)", "2: Box<i64>; 3: D; bb0; _0 = (); _3 = make D move _1.1 move _1.0; drop _1; drop _3; return", "bb0; _0 = (); _3 = make D move _1.1 move _1.0; drop _3; return", ""},
		{"it(d: D)", "2: Box<i64>; 3: Box<D>; bb0; _0 = (); _3 = box move _1; _2 = move _3.*.0; drop _3; drop _2; drop _1; return", "bb0; _0 = (); _3 = box move _1; _2 = move _3.*.0; drop _3.*.1; free _3; drop _2; return", ""},
		{"it(d: D)", "2: Box<i64>; bb0; _0 = (); _2 = move _1.0; _1.0 = move _2; drop _1; drop _2; return", "bb0; _0 = (); _2 = move _1.0; _1.0 = move _2; drop _1; return", ""},
		{"it(d: D)", "2: Box<i64>; bb0; _2 = call id move _1.1 -> 1; bb1; drop _1; drop _2; _0 = (); return", "bb0; _2 = call id move _1.1 -> 1; bb1; drop _1.0; drop _2; _0 = (); return", ""},
		{"it(d: D)", "bb0; _1.0 = call id move _1.0 -> 1; bb1; drop _1; _0 = (); return", "bb0; _1.0 = call id move _1.0 -> 1; bb1; drop _1; _0 = (); return", ""},
		{"it(d: D)", "2: E; 3: S; bb0; _0 = (); _2 = pick E 0; _3 = move _2.@2; drop _2; drop _3; drop _1; return", "bb0; _0 = (); _2 = pick E 0; _3 = move _2.@2; drop _3; drop _1; return", ""},
		{"it(d: D) -> D", "bb0; _0 = move _1; drop _1; drop _0.0; return", "bb0; _0 = move _1; drop _0.0; return", ""},
	})
}
