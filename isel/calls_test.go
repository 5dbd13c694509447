package isel

import (
	"strconv"
	"testing"

	"patina/api"
	"patina/lir"
	"patina/mirun"
)

// 26.1: parameters and results of no words, of one, of several, and of more than there are registers for; what they own.
func TestCalls(t *testing.T) {
	rows := []string{
		"1: i64; 2: i64; 3: (); bb0; _1 = 5; _2 = call six 1 true 3 copy _4 6 7 -> 1; bb1; _3 = call print copy _2 -> 2; bb2; _2 = call six 1 false copy _1 copy _4 6 7 -> 3; bb3; _3 = call print copy _2 -> 4; bb4; _0 = (); return",
		"1: W; 2: Q; 3: E; 4: (); 5: W; 6: Box<i64>; bb0; _1 = call whole 3 -> 1; bb1; _5 = call whole 4 -> 2; bb2; _2 = make Q 70 80 false; _6 = box 9; _3 = pick E 2 move _6; _1 = call wide move _1 move _2 move _3 31 () move _5 -> 3; bb3; _4 = call print copy _1.0.1 -> 4; bb4; _4 = call print copy _1.1.1 -> 5; bb5; _4 = call print copy _1.4.@2.* -> 6; bb6; _4 = call print copy _1.2.0 -> 7; bb7; drop _1; _0 = (); return",
		"1: W; 2: Q; 3: E; 4: (); 5: &mut Q; bb0; _1 = call whole 3 -> 1; bb1; _1.0 = call flip move _1.0 -> 2; bb2; _4 = call print copy _1.0.0 -> 3; bb3; _5 = mut _1.1; _5.* = call flip move _5.* -> 4; bb4; _4 = call print copy _1.1.0 -> 5; bb5; drop _1; _0 = (); return",
		"1: W; 2: W; 3: i64; 4: (); bb0; _1 = call whole 3 -> 1; bb1; _2 = call whole 4 -> 2; bb2; _3 = call skip 8 move _1 move _2 true -> 3; bb3; _4 = call print copy _3 -> 4; bb4; _0 = (); return",
		"1: i64; 2: (); bb0; _1 = call down 998 -> 1; bb1; _2 = call print copy _1 -> 2; bb2; _0 = (); return",
		"1: U; 2: (); bb0; _1 = make U () 9223372036854775807 (); _2 = call print 3 -> 1; bb1; _1 = call unit move _1 -> 2; bb2; _0 = (); return",
	}
	rows[0] = "1: i64; 2: i64; 3: (); 4: &i64; bb0; _4 = ref _1; " + rows[0][len("1: i64; 2: i64; 3: (); bb0; "):]
	for _, row := range rows {
		m := programOf(t, row)
		if at := ran(t, m, madeOf(t, m), nil); at != same {
			t.Error(row, at)
		}
	}
	wantSame(t, append(rows[:4:4], rows[5]))
	wantNothingLeft(t, rows[:3])
}

// 26.1: with as many calls in one another as there may be a program does what it does; with a helper more it may end there, but with nothing else.
func TestDeepCalls(t *testing.T) {
	for n, want := range map[int]int{996: same, 997: same, 998: same, 999: notDone, 5000: notDone} {
		m := programOf(t, "1: i64; 2: (); bb0; _2 = call print 1 -> 1; bb1; _1 = call down "+strconv.Itoa(n)+" -> 2; bb2; _2 = call print copy _1 -> 3; bb3; _0 = (); return")
		l := madeOf(t, m)
		if at := ran(t, m, l, nil); at != want {
			t.Error(n, at)
		}
		if o, e := lir.Run(l, nil, 1<<30); e != api.OK || (o.End == api.EndFuel) != (want == notDone) || string(o.Out[:2]) != "1\n" {
			t.Error(n, e, o)
		}
		full := crowded(m)
		k := madeOf(t, full)
		if at := ran(t, full, k, nil); at != want && (at != manyCall || n < 997) {
			t.Error(n, at)
		}
	}
}

// 26.1: what went over ends the program ahead of a drop that would be one call too many.
func TestOverAheadOfDrop(t *testing.T) {
	for n := 995; n < 1000; n++ {
		m := programOf(t, "1: i64; bb0; _1 = call over "+strconv.Itoa(n)+" -> 1; bb1; _0 = (); return")
		want := same
		if n > 998 {
			want = notDone
		}
		if at := ran(t, m, madeOf(t, m), nil); at != want {
			t.Error(n, at)
		}
	}
}

// 26.1: the heap's end, with a beginning of what is printed; and not ahead of it.
func TestHeap(t *testing.T) {
	for row, want := range map[string]int{
		"1: L; 2: (); bb0; _2 = call print 1 -> 1; bb1; _1 = call list 2730 -> 2; bb2; _2 = call print 2 -> 3; bb3; drop _1; _0 = (); return":                                                                                                                 same,
		"1: L; 2: (); bb0; _2 = call print 1 -> 1; bb1; _1 = call list 2731 -> 2; bb2; _2 = call print 2 -> 3; bb3; drop _1; _0 = (); return":                                                                                                                 noHeap,
		"1: K; 2: (); bb0; _2 = call print 1 -> 1; bb1; _1 = call chain 2600 -> 2; bb2; _2 = call print 2 -> 3; bb3; drop _1; _0 = (); return":                                                                                                                same,
		"1: T; 2: (); bb0; _2 = call print 1 -> 1; bb1; _1 = call tree 9 -> 2; bb2; _2 = call print 2 -> 3; bb3; drop _1; _0 = (); return":                                                                                                                    same,
		"1: T; 2: (); bb0; _2 = call print 1 -> 1; bb1; _1 = call tree 11 -> 2; bb2; _2 = call print 2 -> 3; bb3; drop _1; _0 = (); return":                                                                                                                   noHeap,
		"1: Box<i64>; 2: i64; 3: (); bb0; _2 = 0; goto 1; bb1; _1 = box copy _2; _2 = copy _2 + 1; switch copy _2 5000 2 1; bb2; _3 = call print 2 -> 3; bb3; _0 = (); return":                                                                                same,
		"1: Box<Q>; 2: i64; 3: (); 4: Q; bb0; _2 = 0; goto 1; bb1; _4 = make Q 1 2 true; _1 = box move _4; _2 = copy _2 + 1; switch copy _2 2731 2 1; bb2; _3 = call print 2 -> 3; bb3; _0 = (); return":                                                      noHeap,
		"1: Box<()>; 2: i64; 3: (); bb0; _2 = 0; goto 1; bb1; _1 = box (); _2 = copy _2 + 1; switch copy _2 5000 2 1; bb2; _3 = call print 2 -> 3; bb3; drop _1; _0 = (); return":                                                                             same,
		"1: Box<Q>; 2: i64; 3: (); 4: Q; bb0; _2 = 0; goto 1; bb1; _3 = call print copy _2 -> 2; bb2; _4 = make Q 1 2 true; _1 = box move _4; _2 = copy _2 + 1; switch copy _2 2730 3 1; bb3; _2 = copy _2 / 0; _3 = call print 2 -> 4; bb4; _0 = (); return": same,
	} {
		m := programOf(t, row)
		if at := ran(t, m, madeOf(t, m), nil); at != want {
			t.Error(row, at)
		}
	}
}

// 26.1: drops of lists go on, and call nothing within themselves, however they are made up: there is no call too many, even behind as many as there may be but two.
func TestLongDrops(t *testing.T) {
	for _, row := range []string{
		"1: L; bb0; _1 = call list 2500 -> 1; bb1; drop _1; _0 = (); return", "1: K; bb0; _1 = call chain 2500 -> 1; bb1; drop _1; _0 = (); return", "1: G; bb0; _1 = call branch 1600 -> 1; bb1; drop _1; _0 = (); return", "1: K; 2: &mut K; bb0; _1 = call chain 2500 -> 1; bb1; _2 = mut _1; drop _2.*; _0 = (); return",
	} {
		m := programOf(t, row)
		if at := ran(t, m, madeOf(t, m), nil); at != same {
			t.Error(row, at)
		}
	}
}

// 26.1: in no more than Factor times the steps of MIR and one; most often in far fewer.
func TestSteps(t *testing.T) {
	for row, most := range map[string]int{
		"1: i64; bb0; _1 = 0; goto 1; bb1; _1 = copy _1 + 1; switch copy _1 5000 2 1; bb2; _0 = (); return":                              6,
		"1: W; bb0; _1 = call whole 1 -> 1; bb1; _1 = call whole 2 -> 2; bb2; _0 = (); return":                                           40,
		"1: i64; bb0; _1 = call down 900 -> 1; bb1; _0 = (); return":                                                                     5,
		"1: L; 2: &L; 3: i64; bb0; _1 = call list 400 -> 1; bb1; _2 = ref _1; _3 = call sum copy _2 -> 2; bb2; drop _1; _0 = (); return": 8,
	} {
		m := programOf(t, row)
		a, _ := mirun.Run(m, nil, few)
		b, _ := lir.Run(madeOf(t, m), nil, 1<<30)
		if a.End != api.EndDone || b.End != api.EndDone || b.Steps > most*(a.Steps+1) {
			t.Error(row, a, b)
		}
	}
}
