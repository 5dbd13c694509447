package moves

import (
	"slices"
	"strings"
	"testing"

	"patina/api"
	"patina/mirtest"
)

// wantPoints holds the function of a text to what its lines say behind #: what may be gone ahead of that line, and, behind |, what is surely gone, if that is not the same. - is nothing.
func wantPoints(t *testing.T, head, text string) {
	t.Helper()
	var plain, notes []string
	for _, line := range strings.Split(strings.TrimSpace(text), "\n") {
		code, note, _ := strings.Cut(strings.TrimSpace(line), " # ")
		plain = append(plain, code)
		if note != "" {
			notes = append(notes, note)
		}
	}
	m := programOf(t, itemsWith(t, head), strings.Join(plain, "\n")+"\n")
	at, _ := ways(m.Fns[0])
	for b, block := range m.Fns[0].Blocks {
		points := pointsOf(block, at[b])
		for i := range len(block.Stmts) + 1 {
			may, must, two := strings.Cut(notes[0], " | ")
			if !two {
				must = may
			}
			notes = notes[1:]
			wantPlaces(t, m, b, i, Maybe, may)
			wantPlaces(t, m, b, i, Sure, must)
			if x, y := mirtest.PlaceTexts(maybe(points[i])), mirtest.PlaceTexts(sure(points[i])); x != dash(may) || y != dash(must) {
				t.Errorf("%d.%d: the model says %s | %s", b, i, x, y)
			}
		}
	}
}

func dash(s string) string { return strings.TrimPrefix(s, "-") }

func wantPlaces(t *testing.T, m api.Mir, b, i int, face func(m api.Mir, f, b, i int) ([]api.Place, api.Errno), want string) {
	t.Helper()
	if l, e := face(m, 0, b, i); e != api.OK || mirtest.PlaceTexts(l) != dash(want) {
		t.Errorf("%d.%d: %s %v, not %s", b, i, mirtest.PlaceTexts(l), e, want)
	}
}

// 22.2: at the beginning all is gone but the parameters; each statement's changes, at each of its points.
func TestStatements(t *testing.T) {
	wantPoints(t, "it(b: Box<i64>, d: D)", `
		3: Box<i64>
		4: D
		5: i64
		bb0
		_3 = move _1 # _0 _3 _4 _5
		_5 = copy _3.* # _0 _1 _4 _5
		_1 = box 2 # _0 _1 _4
		_3 = move _2.0 # _0 _4
		drop _2.1 # _0 _2.0 _4
		_4 = move _2 # _0 _2.0 _2.1 _4
		_2.0 = move _3 # _0 _2
		_2 = move _4 # _0 _2 _3
		_2.0 = box 1 # _0 _3 _4
		free _2.1 # _0 _3 _4
		drop _2 # _0 _2.1 _3 _4
		live _5 # _0 _2 _3 _4
		dead _1 # _0 _2 _3 _4 _5
		drop _2.0 # _0 _1 _2 _3 _4 _5
		live _2 # _0 _1 _2 _3 _4 _5
		_0 = () # _0 _1 _2 _3 _4 _5
		return # _1 _2 _3 _4 _5`)
	wantPoints(t, "it(e: E, c: Box<D>, r: &mut D, x: &E)", `
		5: S
		6: Box<i64>
		7: i64
		bb0
		_6 = move _1.@2.1 # _0 _5 _6 _7
		_7 = tag _1 # _0 _1.@2.1 _5 _7
		_1.@2.1 = move _6 # _0 _1.@2.1 _5
		_5 = move _1.@2 # _0 _5 _6
		drop _1.@2.1 # _0 _1.@2 _6
		_1.@2 = move _5 # _0 _1.@2 _6
		_6 = move _2.*.1 # _0 _5 _6
		_2.* = call give -> 1 # _0 _2.*.1 _5
		bb1
		_6 = move _2.*.1 # _0 _5
		drop _2.* # _0 _2.*.1 _5
		drop _2.*.0 # _0 _2.* _5
		free _2 # _0 _2.* _5
		_6 = move _3.*.0 # _0 _2 _5
		drop _3.* # _0 _2 _3.*.0 _5
		_3.*.0 = box 1 # _0 _2 _3.* _5
		_7 = tag _4.* # _0 _2 _3.* _5
		return # _0 _2 _3.* _5`)
}

// 22.2: ends: what operands make go is gone behind them; the Place of a call comes back behind it alone.
func TestEndsOfBlocks(t *testing.T) {
	wantPoints(t, "it(b: Box<i64>, d: D)", `
		3: Box<i64>
		4: i64
		bb0
		_3 = call id move _1 -> 1 # _0 _3 _4
		bb1
		_3 = call id move _3 -> 2 # _0 _1 _4
		bb2
		_2.0 = call id move _2.1 -> 3 # _0 _1 _4
		bb3
		_0 = call two move _2.0 move _3 -> 4 # _0 _1 _2.1 _4
		bb4
		_4 = call read -> 5 # _1 _2.0 _2.1 _3 _4
		bb5
		_2 = call give -> 6 # _1 _2.0 _2.1 _3
		bb6
		_2.0 = call id move _2.0 -> 7 # _1 _3
		bb7
		switch copy _4 1 8 8 # _1 _3
		bb8
		_1 = call id move _1 -> 9 # _1 _3
		bb9
		panic 101 # _3`)
}

// 22.2: ways that meet: gone on one of them alone, in parts, on all.
func TestMeetings(t *testing.T) {
	wantPoints(t, "it(c: bool, b: Box<i64>, d: D)", `
		4: Box<i64>
		5: D
		bb0
		_0 = () # _0 _4 _5
		if copy _1 1 2 # _4 _5
		bb1
		_4 = move _2 # _4 _5
		goto 3 # _2 _5
		bb2
		_4 = move _3.0 # _4 _5
		drop _3.1 # _3.0 _5
		goto 3 # _3.0 _3.1 _5
		bb3
		if copy _1 4 5 # _2 _3.0 _3.1 _5 | _5
		bb4
		_5 = move _3 # _2 _3.0 _3.1 _5 | _5
		goto 6 # _2 _3 | _3
		bb5
		drop _3.0 # _2 _3.0 _3.1 _5 | _5
		goto 6 # _2 _3.0 _3.1 _5 | _3.0 _5
		bb6
		_3.0 = box 1 # _2 _3 _5 | _3.0
		_3 = call give -> 7 # _2 _3 _5 | -
		bb7
		_2 = box 1 # _2 _5 | -
		return # _5 | -`)
	wantPoints(t, "it(c: bool, d: D, x: D)", `
		bb0
		_0 = () # _0
		if copy _1 1 2 # -
		bb1
		drop _2 # -
		drop _3.0 # _2
		drop _3.1 # _2 _3.0
		goto 3 # _2 _3.0 _3.1
		bb2
		drop _2.1 # -
		drop _2.0 # _2.1
		drop _3 # _2.0 _2.1
		goto 3 # _2.0 _2.1 _3
		bb3
		return # _2 _3 | _2.0 _2.1 _3.0 _3.1`)
}

// 22.2, 22.4: rings: what a later statement moves is gone at the ring's head, too; what all rounds have moved is surely gone.
func TestRings(t *testing.T) {
	wantPoints(t, "it(c: bool, b: Box<i64>, d: D)", `
		4: Box<i64>
		bb0
		_0 = () # _0 _4
		goto 1 # _4
		bb1
		if copy _1 2 4 # _2 _3.0 _4 | -
		bb2
		live _4 # _2 _3.0 _4 | -
		_4 = move _2 # _2 _3.0 _4 | _4
		if copy _1 1 3 # _2 _3.0 | _2
		bb3
		drop _3.0 # _2 _3.0 | _2
		dead _4 # _2 _3.0 | _2 _3.0
		goto 1 # _2 _3.0 _4 | _2 _3.0 _4
		bb4
		return # _2 _3.0 _4 | -`)
	wantPoints(t, "it(c: bool, b: Box<i64>)", `
		3: Box<i64>
		bb0
		_3 = move _2 # _0 _3 | _3
		_2 = move _3 # _0 _2 | _2
		_0 = () # _0 _3 | _3
		if copy _1 0 1 # _3
		bb1
		return # _3`)
}

// 22.2: at points to which no way leads nothing may be gone, nothing is surely gone, whatever stands there.
func TestNoWay(t *testing.T) {
	wantPoints(t, "it(b: Box<i64>)", `
		2: Box<i64>
		bb0
		goto 2 # _0 _2
		bb1
		_2 = move _1 # -
		dead _1 # -
		goto 2 # -
		bb2
		_0 = () # _0 _2
		return # _2
		bb3
		drop _1 # -
		goto 1 # -`)
}

// 22.1: which wrong use is told first.
func TestFirst(t *testing.T) {
	wantChecks(t,
		"_11 = true; if copy _11 1 2; bb1; _7 = move _1; goto 2; bb2; !_17 = move _1", "_11 = true; if copy _11 1 2; bb1; _7 = move _1; _1 = move _7; goto 2; bb2; _17 = move _1", "_11 = true; if copy _11 1 2; bb1; _7 = move _1; return; bb2; _17 = move _1", "_11 = true; if copy _11 1 2; bb1; _7 = move _1; panic 103; bb2; _17 = move _1",
		"_11 = true; if copy _11 1 2; bb1; _7 = move _2.0; goto 3; bb2; _8 = move _2; goto 3; bb3; !_2.1 = box 1", "_11 = true; if copy _11 1 2; bb1; _7 = move _2.0; goto 3; bb2; _17 = move _2.1; goto 3; bb3; _2.1 = box 1; _2.0 = box 2; _8 = move _2", "_11 = true; if copy _11 1 2; bb1; _10 = 1; goto 2; bb2; !_10 = copy _10",
		"goto 1; bb1; !_7 = move _1; goto 1", "goto 1; bb1; _7 = move _1; _1 = move _7; if true 1 2; bb2", "_11 = true; goto 1; bb1; !_7 = move _1; if copy _11 1 2; bb2; _17 = move _1", "_11 = true; goto 1; bb1; _7 = move _1; if copy _11 2 3; bb2; _1 = box 1; goto 1; bb3; !_17 = move _1", "_11 = true; goto 1; bb1; !_10 = copy _1.*; if copy _11 2 3; bb2; drop _1; goto 1; bb3; return", "_11 = true; goto 1; bb1; !_7 = call id move _1 -> 1",
		"return; bb1; _7 = move _17; _7 = move _4.*; return", "goto 2; bb1; _17 = move _7; goto 1; bb2; return", "goto 2; bb1; _17 = move _7; goto 2; bb2; _7 = move _1; !_17 = move _1; return",
		"goto 2; bb1; !_7 = move _8.0; return; bb2; _17 = move _8.1; goto 1", "goto 2; bb1; ?_7 = move _4.*; return; bb2; _17 = move _8.1; goto 1", "goto 2; bb1; return; bb2; !_17 = move _8.1; _7 = move _4.*; goto 1", "goto 2; bb1; goto 3; bb2; !_17 = move _8.1; goto 1; bb3; _7 = move _4.*",
		"_7 = move _1; _17 = move _7; !_8 = make D move _1 move _7; _7 = move _1; return",
	)
	// The functions in their order.
	m, _ := rowOf(t, "_7 = move _1")
	for _, f := range []int{5, 3, 2} {
		m.Fns = slices.Clone(m.Fns)
		fn := &m.Fns[f]
		fn.Blocks = slices.Clone(fn.Blocks)
		fn.Blocks[0] = api.MBlock{Term: api.MTerm{Kind: api.TReturn, At: 100 + f, Till: 200 + f}}
		if d := Check(m); d != (api.Diag{Code: api.ErrMoved, From: 100 + f, To: 200 + f}) {
			t.Error(f, d)
		}
	}
}

// 22.1: a return answers all of local 0.
func TestReturns(t *testing.T) {
	it := itemsWith(t, "it(d: D, c: bool) -> D")
	for text, want := range map[string]api.Diag{
		"3: Box<i64>; bb0; return":               {Code: api.ErrMoved, From: 0, To: 1},
		"3: Box<i64>; bb0; _0 = move _1; return": {}, "3: Box<i64>; bb0; _0 = move _1; _3 = move _0.1; return": {Code: api.ErrMoved, From: 2, To: 3},
		"3: Box<i64>; bb0; _0 = move _1; drop _0.0; _0.0 = box 2; return": {}, "3: Box<i64>; bb0; _0 = move _1; drop _0; return": {Code: api.ErrMoved, From: 2, To: 3}, "3: Box<i64>; bb0; _0 = move _1; dead _0; return": {Code: api.ErrMoved, From: 2, To: 3},
		"bb0; if copy _2 1 2; bb1; _0 = move _1; goto 2; bb2; return":                           {Code: api.ErrMoved, From: 3, To: 4},
		"bb0; if copy _2 1 2; bb1; _0 = move _1; goto 3; bb2; _0 = call give -> 3; bb3; return": {},
		"bb0; if copy _2 1 2; bb1; _0 = move _1; return; bb2; panic 103":                        {}, "bb0; goto 0": {},
	} {
		m := programOf(t, it, mirtest.Lines(text))
		if d := Check(m); d != want || modelCheck(m) != want {
			t.Errorf("%s: %v, not %v", text, d, want)
		}
	}
}
