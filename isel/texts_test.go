package isel

import (
	"strings"
	"testing"

	"patina/api"
	"patina/lir"
)

// textFor is the text of what is made of a function of numbers and structs, from its first line on, with semicolons between lines.
func textFor(t *testing.T, head, row string) string {
	t.Helper()
	m := benchOf(t, "struct Q { a: i64, b: i64 } enum O { No, Yes(Q) }", "bb0; panic 103", [2]string{"eat(o: O)", "bb0; return"}, [2]string{head, row})
	f, fits := newProgram(m, false).function(2)
	main := api.LFn{Name: "main", Blocks: []api.LBlock{{Ins: []api.LIns{{Op: api.LRet, A: none}}}}}
	eat := api.LFn{Name: "eat", Params: 3, Regs: 3, Blocks: main.Blocks}
	text, e := lir.Text([]api.LFn{main, eat, f})
	if !fits || e != api.OK {
		t.Fatal(fits, e)
	}
	_, text, _ = strings.Cut(text, "fn it")
	_, text, _ = strings.Cut(text, "\n")
	return strings.ReplaceAll(strings.TrimSpace(strings.ReplaceAll(text, "\n\t", "; ")), "\n", " | ")
}

// 26.1, and no more than that: what is made of a few functions.
func TestTexts(t *testing.T) {
	for _, c := range [][3]string{
		{"it(c: bool) -> i64", "bb0; if copy _1 1 2; bb1; _0 = 1; return; bb2; _0 = 2; return", "block 0; if 0 2 1 | block 1; const 3 2; ret 3 | block 2; const 3 1; ret 3"},
		{"it(q: &Q) -> &i64", "bb0; _0 = ref _1.*.0; return", "block 0; move 3 0; ret 3"},
		{"it(q: &Q) -> i64", "bb0; _0 = copy _1.*.1 - 1; return", "block 0; load 4 0 8; const 5 -1; bin 6 add 4 5; bin 7 xor 4 6; bin 1 and 7 4; move 3 6; const 9 0; bin 10 slt 1 9; if 10 2 1 | block 1; ret 3 | block 2; trap 101"},
		{"it(n: i64)", "2: O; bb0; _2 = pick O 0; _0 = call eat move _2 -> 1; bb1; return", "block 0; const 3 0; const 4 0; const 5 0; call -1 eat 3 4 5; ret -1"},
		{"it(n: i64) -> i64", "2: i64; bb0; _2 = 0; goto 1; bb1; _2 = copy _2 + copy _1; _1 = copy _1 - 1; switch copy _1 0 2 1; bb2; _0 = copy _2 + 1; return", "block 0; const 4 0; jump 1 | block 1; bin 6 add 4 0; bin 7 xor 4 6; bin 8 xor 0 6; bin 1 and 7 8; move 4 6; const 10 -1; bin 11 add 0 10; bin 12 xor 0 11; bin 13 and 12 0; bin 1 or 1 13; move 0 11; const 14 0; bin 15 slt 1 14; if 15 5 2 | block 2; if 0 1 3 | block 3; const 16 1; bin 17 add 4 16; bin 18 xor 4 17; bin 1 and 18 17; move 3 17; const 20 0; bin 21 slt 1 20; if 21 5 4 | block 4; ret 3 | block 5; trap 101"},
		{"it(q: Q) -> i64", "bb0; switch copy _1.0 3 1 4 1 5 1 9 2 3; bb1; _0 = copy _1.1; return; bb2; _0 = 2; return; bb3; _0 = 3; return", "block 0; const 5 3; bin 6 sub 0 5; const 7 3; bin 8 sltu 6 7; if 8 4 1 | block 1; const 5 9; bin 6 xor 0 5; if 6 2 3 | block 2; const 4 3; ret 4 | block 3; const 4 2; ret 4 | block 4; move 4 1; ret 4"},
		{"it(b: Box<i64>)", "bb0; drop _1; _0 = (); return", "block 0; const 3 1; call -1 rt.free 0 3; ret -1"},
		{"it(n: i64, m: i64) -> i64", "3: i64; bb0; _3 = copy _1 * 2; _3 = copy _3 / copy _2; _0 = copy _3 - copy _1; return", "block 0; const 6 2; bin 7 mul 0 6; const 8 63; bin 9 sra 7 8; bin 10 mulh 0 6; bin 11 xor 10 9; const 12 0; bin 13 sub 12 11; bin 2 or 11 13; move 5 7; const 15 1; bin 16 sltu 1 15; const 17 0; bin 18 slt 2 17; const 19 1; bin 20 sltu 18 19; bin 3 and 16 20; const 22 -9223372036854775808; bin 23 xor 5 22; const 24 -1; bin 25 xor 1 24; bin 26 or 23 25; const 27 0; const 28 1; bin 29 sltu 26 28; bin 30 sub 27 29; bin 2 or 2 30; bin 5 div 5 1; bin 32 sub 5 0; bin 33 xor 5 0; bin 34 xor 5 32; bin 35 and 33 34; bin 2 or 2 35; move 4 32; const 36 0; bin 37 slt 2 36; bin 38 or 37 3; if 38 2 1 | block 1; ret 4 | block 2; if 3 4 3 | block 3; trap 101 | block 4; trap 102"},
	} {
		if got := textFor(t, c[0], c[1]); got != c[2] {
			t.Errorf("%s, %s:\n%s, not\n%s", c[0], c[1], got, c[2])
		}
	}
}
