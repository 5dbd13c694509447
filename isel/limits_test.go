package isel

import (
	"math/rand"
	"slices"
	"strconv"
	"strings"
	"testing"

	"patina/api"
	"patina/lir"
	"patina/mir"
	"patina/mirtest"
)

// benchOf is MIR of such types, whose main has, behind its result, the lines of a row.
func benchOf(t *testing.T, types, row string, helpers ...[2]string) api.Mir {
	t.Helper()
	b := mirtest.Bench{Types: types, Helpers: helpers}
	it, right := b.Items("main()")
	m, is := b.Program(it, mirtest.Lines(row))
	if !right || !is || mir.Check(m) != api.OK {
		t.Fatalf("%v %v %v\n%s", right, is, mir.Check(m), row)
	}
	return m
}

// wideTypes has a type of 64 words.
const wideTypes = "struct F { a: i64, b: i64, c: i64, d: i64, e: i64, f: i64, g: i64, h: i64, i: i64, j: i64, k: i64, l: i64, m: i64, n: i64, o: i64, p: i64 } struct G { a: F, b: F, c: F, d: F }"

// wantLimit holds Make to ErrLong, or to none.
func wantLimit(t *testing.T, what string, m api.Mir, want api.Errno) {
	t.Helper()
	l, e := Make(m)
	if e != want || e != api.OK && len(l) > 0 || e == api.OK && lir.Check(l) != api.OK {
		t.Error(what, e, lir.Check(l))
	}
}

// ErrLong: a frame of as many words as there may be, and of one more.
func TestFrame(t *testing.T) {
	lent := func(locals int, more string) api.Mir {
		row, uses := "", "bb0; "
		for k := range locals {
			row += strconv.Itoa(2*k+1) + ": G; " + strconv.Itoa(2*k+2) + ": &G; "
			uses += "_" + strconv.Itoa(2*k+2) + " = ref _" + strconv.Itoa(2*k+1) + "; "
		}
		if more != "" {
			row += strconv.Itoa(2*locals+1) + ": " + more + "; " + strconv.Itoa(2*locals+2) + ": &" + more + "; "
			uses += "_" + strconv.Itoa(2*locals+2) + " = ref _" + strconv.Itoa(2*locals+1) + "; "
		}
		return benchOf(t, wideTypes, row+uses+"_0 = (); return")
	}
	wantLimit(t, "64 locals of 64 words", lent(64, ""), api.OK)
	wantLimit(t, "and one of none", lent(64, "()"), api.OK)
	wantLimit(t, "and one of a word", lent(64, "i64"), api.ErrLong)
	wantLimit(t, "65 locals", lent(65, ""), api.ErrLong)
	unnamed := lent(64, "")
	for range 900 {
		unnamed.Fns[0].Locals = append(unnamed.Fns[0].Locals, api.Local{Type: "G"})
	}
	wantLimit(t, "and many that are never named", unnamed, api.OK)
	wantLimit(t, "64 locals, 63 of 64 words", lent(63, "F"), api.OK)
	many := benchOf(t, "", "bb0; _0 = (); return")
	for k := range mir.MaxTemps - 1 { // all of them at once, and at the end
		many.Fns[0].Locals = append(many.Fns[0].Locals, api.Local{Type: "i64"})
		set := api.MStmt{Kind: api.MSet, Place: api.Place{Local: k + 1}, R: api.Rvalue{Kind: api.RUse, Args: []api.Operand{{Kind: api.ONum, Num: int64(k)}}}}
		sum := api.MStmt{Kind: api.MSet, Place: api.Place{Local: 1}, R: api.Rvalue{Kind: api.RBin, Op: "+", Args: []api.Operand{{Kind: api.OCopy, Place: api.Place{Local: 1}}, {Kind: api.OCopy, Place: api.Place{Local: k + 1}}}}}
		b := &many.Fns[0].Blocks[0]
		b.Stmts = append(slices.Insert(b.Stmts, k, set), sum)
	}
	many.Fns[0].Locals[2].Type = "()"
	many.Fns[0].Blocks[0].Stmts = slices.DeleteFunc(many.Fns[0].Blocks[0].Stmts, func(s api.MStmt) bool {
		return s.Place.Local == 2 || len(s.R.Args) == 2 && s.R.Args[1].Place.Local == 2
	})
	many.Fns[0].Blocks = append(many.Fns[0].Blocks, many.Fns[0].Blocks[0])
	many.Fns[0].Blocks[0].Term = api.MTerm{Kind: api.TCall, Name: "print", Args: []api.Operand{{Kind: api.OCopy, Place: api.Place{Local: 1}}}, Place: api.Place{Local: 2}, To: []int{1}}
	many.Fns[0].Blocks[1].Stmts = nil
	if at := ran(t, many, madeOf(t, many), nil); at != same {
		t.Error("many locals:", at)
	}
}

// tests is a main of so many blocks, each of which ends with a test, or with a switch by two numbers; block 0 is come to again, or not.
func tests(t *testing.T, blocks int, isSwitch, again bool) api.Mir {
	m := benchOf(t, "", "1: i64; 2: bool; bb0; _1 = copy _1 + 1; return")
	first := m.Fns[0].Blocks[0].Stmts
	m.Fns[0].Blocks = nil
	for k := range blocks {
		next, least := (k+1)%blocks, 1
		if again {
			least = 0
		}
		next = max(next, least)
		end := api.MTerm{Kind: api.TIf, Arg: api.Operand{Kind: api.OCopy, Place: api.Place{Local: 2}}, To: []int{next, least}}
		if isSwitch {
			end = api.MTerm{Kind: api.TSwitch, Arg: api.Operand{Kind: api.OCopy, Place: api.Place{Local: 1}}, Values: []int64{1, 3}, To: []int{next, max(least, k), least}}
		}
		m.Fns[0].Blocks = append(m.Fns[0].Blocks, api.MBlock{Stmts: first, Term: end})
	}
	return m
}

// ErrLong: as many blocks as there may be; sums in each of them need no blocks of their own.
func TestBlocks(t *testing.T) {
	for _, again := range []bool{false, true} {
		wantLimit(t, "tests", tests(t, api.MaxBlocks, false, again), api.OK)
		wantLimit(t, "few switches", tests(t, 500, true, again), api.OK)
		wantLimit(t, "switches", tests(t, api.MaxBlocks, true, again), api.ErrLong)
	}
	m := tests(t, api.MaxBlocks, false, false)
	for k := 1; k < api.MaxBlocks; k += 2 {
		m.Fns[0].Blocks[k-1].Term.To = []int{k, (k + 1) % api.MaxBlocks}
		m.Fns[0].Blocks[k].Term = api.MTerm{Kind: api.TGoto, To: []int{max(1, (k+1)%api.MaxBlocks)}}
	}
	wantLimit(t, "ways on", m, api.OK)
	// A ring of calls is one block, and has more instructions than one may have.
	m = benchOf(t, "", "1: (); bb0; return")
	m.Fns[0].Blocks = nil
	for k := range api.MaxBlocks {
		m.Fns[0].Blocks = append(m.Fns[0].Blocks, api.MBlock{Term: api.MTerm{Kind: api.TCall, Name: "print", Args: []api.Operand{{Kind: api.ONum, Num: int64(k)}}, Place: api.Place{Local: 1}, To: []int{(k + 1) % api.MaxBlocks}}})
	}
	if l := madeOf(t, m); len(l[0].Blocks) > 3 {
		t.Error(len(l[0].Blocks))
	}
}

// ErrLong: blocks of many instructions are as many as they need; of too many there are too many.
func TestInstructions(t *testing.T) {
	for statements, want := range map[int]int{500: 1, 1000: 2, 5000: 8, api.MaxNodes: 30} {
		m := benchOf(t, "", "1: i64; 2: (); bb0; _1 = 3; return")
		b := &m.Fns[0].Blocks[0]
		for range statements - 1 {
			b.Stmts = append(b.Stmts, api.MStmt{Kind: api.MSet, Place: api.Place{Local: 1}, R: api.Rvalue{Kind: api.RBin, Op: "+", Args: []api.Operand{{Kind: api.OCopy, Place: api.Place{Local: 1}}, {Kind: api.ONum, Num: 2}}}})
		}
		b.Term = api.MTerm{Kind: api.TCall, Name: "print", Args: []api.Operand{{Kind: api.OCopy, Place: api.Place{Local: 1}}}, Place: api.Place{Local: 2}, To: []int{1}}
		m.Fns[0].Blocks = append(m.Fns[0].Blocks, api.MBlock{Term: api.MTerm{Kind: api.TReturn}})
		l := madeOf(t, m)
		if n := len(l[0].Blocks); n < want || n > 2*want+3 || ran(t, m, l, nil) != same {
			t.Error(statements, n)
		}
		if statements != 5000 {
			continue
		}
		for range api.MaxBlocks - 2 {
			m.Fns[0].Blocks = append(m.Fns[0].Blocks, api.MBlock{Stmts: b.Stmts, Term: api.MTerm{Kind: api.TGoto, To: []int{1}}})
		}
		m.Fns[0].Blocks[1].Term = api.MTerm{Kind: api.TSwitch, Arg: api.Operand{Kind: api.OCopy, Place: api.Place{Local: 1}}}
		for k := range api.MaxBlocks - 2 {
			m.Fns[0].Blocks[1].Term.Values = append(m.Fns[0].Blocks[1].Term.Values, int64(k))
			m.Fns[0].Blocks[1].Term.To = append(m.Fns[0].Blocks[1].Term.To, 2+k)
		}
		m.Fns[0].Blocks[1].Term.To = append(m.Fns[0].Blocks[1].Term.To, 0)
		wantLimit(t, "as many of them", m, api.ErrLong)
	}
}

// 26.1: a switch of many numbers, one by one, side by side, and by their edges.
func TestManyNumbers(t *testing.T) {
	m := benchOf(t, "", "1: i64; 2: (); bb0; _1 = call read -> 1; bb1; switch copy _1 0 2 2; bb2; _2 = call print 1 -> 5; bb3; _2 = call print 2 -> 5; bb4; _2 = call print 3 -> 5; bb5; _0 = (); return")
	s := &m.Fns[0].Blocks[1].Term
	s.Values, s.To = []int64{-1 << 63, -1<<63 + 1, -7, -1}, []int{4, 4, 2, 3}
	for n := range int64(6000) {
		s.Values = append(s.Values, n)
		s.To = append(s.To, 2+int(n/3+n/7)%3)
	}
	s.Values, s.To = append(s.Values, 1<<63-2, 1<<63-1), append(s.To, 2, 2, 4)
	l := madeOf(t, m)
	for n := range 256 {
		if ran(t, m, l, []byte{byte(n)}) != same {
			t.Error(n)
		}
	}
	for _, n := range []int64{-1 << 63, -1<<63 + 1, -1<<63 + 2, -8, -7, -6, -2, -1, 5999, 6000, 1<<63 - 3, 1<<63 - 2, 1<<63 - 1} {
		x := benchOf(t, "", "1: i64; 2: (); bb0; _1 = 0; goto 1; bb1; switch copy _1 0 2 2; bb2; _2 = call print 1 -> 5; bb3; _2 = call print 2 -> 5; bb4; _2 = call print 3 -> 5; bb5; _0 = (); return")
		x.Fns[0].Blocks[1].Term = *s
		x.Fns[0].Blocks[0].Stmts[0].R.Args[0].Num = n
		if ran(t, x, madeOf(t, x), nil) != same {
			t.Error(n)
		}
	}
}

// 26.1: Boxes in Boxes, thousands of them: they are dropped by no more functions than two of them; and so are their parts.
func TestDeepBoxes(t *testing.T) {
	const deep = 1500
	locals, blocks := "1: Box<i64>; 2: S; ", "bb0; _1 = box 1; _2 = make S 2 move _1; "
	for n := range deep {
		locals += strconv.Itoa(3+n) + ": " + strings.Repeat("Box<", n+1) + "S" + strings.Repeat(">", n+1) + "; "
		blocks += "_" + strconv.Itoa(3+n) + " = box move _" + strconv.Itoa(2+n) + "; "
	}
	last := "_" + strconv.Itoa(2+deep)
	inner := last + strings.Repeat(".*", 90)
	for _, end := range []string{"drop " + last, "drop " + inner + "; drop " + last, "_3 = move " + last + strings.Repeat(".*", 2) + "; drop " + last} {
		if strings.HasPrefix(end, "_3") {
			locals += strconv.Itoa(3+deep) + ": " + strings.Repeat("Box<", deep-2) + "S" + strings.Repeat(">", deep-2) + "; "
			end = "_" + strconv.Itoa(3+deep) + end[len("_3"):] + "; drop _" + strconv.Itoa(3+deep)
		}
		m := benchOf(t, "struct S { a: i64, b: Box<i64> }", locals+blocks+end+"; _0 = (); return")
		l := madeOf(t, m)
		if at := ran(t, m, l, nil); len(l) > 4 || at != same {
			t.Error(len(l), at)
		}
	}
}

// many is a program of so many functions, which call each other, and of so many types that own, all of which are dropped.
func many(t *testing.T, functions, types int) api.Mir {
	var text strings.Builder
	for k := range types {
		n := strconv.Itoa(k)
		text.WriteString("enum E" + n + " { A, B(Box<E" + n + ">), C(S" + n + ") } struct S" + n + " { a: Box<i64>, b: Box<E" + strconv.Itoa((k+1)%types) + "> } ")
	}
	helpers := [][2]string{}
	for k := range functions - 1 {
		row := "bb0; _0 = (); return"
		if k < functions-2 {
			row = "bb0; _0 = call f" + strconv.Itoa(k+1) + " -> 1; bb1; return"
		}
		if k == 0 {
			locals, blocks := "", "bb0; "
			for n := range types {
				local := strconv.Itoa(4*n + 1)
				locals += local + ": E" + strconv.Itoa(n) + "; " + strconv.Itoa(4*n+2) + ": Box<E" + strconv.Itoa(n) + ">; " + strconv.Itoa(4*n+3) + ": &mut E" + strconv.Itoa(n) + "; " + strconv.Itoa(4*n+4) + ": &mut Box<E" + strconv.Itoa(n) + ">; "
				blocks += "_" + local + " = pick E" + strconv.Itoa(n) + " 0; _" + strconv.Itoa(4*n+2) + " = box move _" + local + "; _" + local + " = pick E" + strconv.Itoa(n) + " 1 move _" + strconv.Itoa(4*n+2) + "; _" + strconv.Itoa(4*n+3) + " = mut _" + local + "; drop _" + strconv.Itoa(4*n+3) + ".*; "
			}
			row = locals + blocks + row[len("bb0; "):]
		}
		helpers = append(helpers, [2]string{"f" + strconv.Itoa(k) + "()", row})
	}
	return benchOf(t, text.String(), "bb0; _0 = call f0 -> 1; bb1; return", helpers...)
}

// 26.1: as many functions and types as there may be; where there are more functions than an image may have, helpers are one.
func TestManyFunctions(t *testing.T) {
	for _, c := range []struct{ functions, types, want int }{{3, 1, 7}, {10, 15, 43}, {63, 15, 64}, {64, 64, 65}, {64, 1, 65}, {60, 1, 64}, {61, 1, 63}, {62, 1, 64}, {63, 1, 64}} {
		m := many(t, c.functions, c.types)
		l := madeOf(t, m)
		if len(l) > c.want || len(l) < c.functions+1 || ran(t, m, l, nil) != same {
			t.Error(c, len(l))
		}
	}
	if l := madeOf(t, benchOf(t, "", "bb0; _0 = (); return", [2]string{"f()", "bb0; _0 = call g -> 1; bb1; return"}, [2]string{"g()", "bb0; return"})); len(l) != 1 {
		t.Error("functions that are never called:", len(l))
	}
}

// 26.1: names of helpers are no names of the source's functions.
func TestNames(t *testing.T) {
	long := strings.Repeat("x", api.MaxName)
	m := benchOf(t, "enum E { A, B(Box<E>), C(Box<i64>) }", "1: E; 2: Box<E>; 3: Box<Box<i64>>; 4: Box<i64>; bb0; _1 = pick E 0; _2 = box move _1; _1 = pick E 1 move _2; drop _1; _4 = box 1; _3 = box move _4; drop _3; _0 = call drop -> 1; bb1; _0 = call free -> 2; bb2; _0 = call unbox -> 3; bb3; _0 = call check -> 4; bb4; _0 = call help -> 5; bb5; _0 = call drop1 -> 6; bb6; _0 = call "+long+" -> 7; bb7; return",
		[2]string{"drop()", "1: (); bb0; _1 = call print 1 -> 1; bb1; return"}, [2]string{"free()", "1: (); bb0; _1 = call print 2 -> 1; bb1; return"}, [2]string{"unbox()", "bb0; return"}, [2]string{"check()", "bb0; return"}, [2]string{"help()", "bb0; return"}, [2]string{"drop1()", "bb0; return"}, [2]string{long + "()", "bb0; return"})
	if at := ran(t, m, madeOf(t, m), nil); at != same {
		t.Error(at)
	}
	full := crowded(m)
	if at := ran(t, full, madeOf(t, full), nil); at != same {
		t.Error(at)
	}
	one, _ := newProgram(full, true).functions()
	if at := ran(t, full, one, nil); at != same || lir.Check(one) != api.OK {
		t.Error(at)
	}
}

// heavy is a program of the sizes that 26.1 names, each part of which asks for as much as it may.
func heavy(t *testing.T, r *rand.Rand) api.Mir {
	const boxes = "a: Box<i64>, b: Box<i64>, c: Box<i64>, d: Box<i64>, e: Box<i64>, f: Box<i64>, g: Box<i64>, h: Box<i64>, i: Box<i64>, j: Box<i64>, k: Box<i64>, l: Box<i64>, m: Box<i64>, n: Box<i64>, o: Box<i64>"
	types := "struct A { " + boxes + ", p: Box<Box<A>> } struct B { a: A, b: A, c: A, d: A } struct C { a: A, b: A, c: A, d: D } struct D { " + boxes + " } "
	variants := ""
	for k := range 14 {
		variants += string(rune('A'+k)) + "(C), "
	}
	variants += "X(Box<i64>), Y(Box<B>), "
	for k := range 25 {
		types += "enum E" + strconv.Itoa(k) + " { " + strings.TrimSuffix(variants, ", ") + " } "
	}
	params := "a: B, b: E0, c: B, d: E1, e: B, f: E2"
	locals := ""
	for k := range 7 {
		locals += strconv.Itoa(7+k) + ": B; "
	}
	for k := range 12 {
		locals += strconv.Itoa(14+k) + ": E" + strconv.Itoa(k%25) + "; "
	}
	locals += "26: &mut B; 27: i64; 28: bool; 29: &mut E3; "
	var blocks strings.Builder
	statements := []string{"_7 = make B move _26.*.0 move _26.*.1 move _26.*.2 move _26.*.3", "drop _26.*", "_26.* = move _8", "_29.* = move _17", "drop _29.*", "_26 = mut _7", "_27 = copy _27 * copy _27", "_27 = copy _27 / copy _27", "drop _8", "_14 = pick E0 3 move _15.@3", "_29 = mut _17", "_7 = move _26.*", "_17 = move _29.*", "drop _17.@3.0.15.*", "_28 = copy _27 < 7"}
	for k := range 30 {
		blocks.WriteString("bb; ")
		for range 30 {
			blocks.WriteString(statements[r.Intn(len(statements))] + "; ")
		}
		if k%3 > 0 {
			blocks.WriteString("switch copy _27")
			for n := range 16 {
				blocks.WriteString(" " + strconv.Itoa(n*n) + " " + strconv.Itoa(r.Intn(30)))
			}
			blocks.WriteString(" " + strconv.Itoa(r.Intn(30)) + "; ")
		} else {
			blocks.WriteString("_7 = call f move _7 move _14 move _26.* move _15 move _8 move _16 -> " + strconv.Itoa(r.Intn(30)) + "; ")
		}
	}
	row := locals + strings.TrimSuffix(blocks.String(), "; ")
	return benchOf(t, types, "1: B; 2: E0; 3: E1; 4: E2; bb0; _1 = call f move _1 move _2 move _1 move _3 move _1 move _4 -> 0", [2]string{"f(" + params + ") -> B", row})
}

// 26.1: never ErrLong of a program of such sizes.
func TestNeverLong(t *testing.T) {
	r := rand.New(rand.NewSource(261))
	for range 15 {
		m := heavy(t, r)
		madeOf(t, m)
		if one, fits := newProgram(m, true).functions(); fits && lir.Check(one) != api.OK {
			t.Error("in one")
		}
	}
}
