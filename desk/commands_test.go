package desk

import (
	"strings"
	"testing"

	"patina/api"
)

// script is a source's lines, and commands behind them.
func script(source string, commands ...string) string {
	var s strings.Builder
	s.WriteString("source\n")
	for line := range strings.SplitSeq(source, "\n") {
		s.WriteString("|" + line + "\n")
	}
	return s.String() + strings.Join(commands, "\n")
}

// wantTold holds what commands tell of a source to lines.
func wantTold(t *testing.T, source string, commands, want []string) {
	t.Helper()
	s := script(source, commands...)
	got, at, e := Run(s)
	if lines := "ok\n" + strings.Join(want, "\n") + "\n"; got != lines || at != 0 || e != api.OK {
		t.Errorf("%q %d %v, not %q\n%s", got, at, e, lines, s)
	}
}

const (
	noMain   = "fn f() { }"
	noText   = "fn main() {\n\xff }"
	noTree   = "fn main() {\n  let = 1; }"
	noTypes  = "fn main() {\n\n print(true); }"
	noCover  = "fn f(n: i64) -> i64 { n }\nfn main() { match read() { 0 => { } } }"
	noMoves  = "fn f() { }\nfn main() { let b = Box::new(1);\n  let c = b; print(*b); }"
	noLoans  = "fn f(n: i64) -> i64 { n * 2 }\nfn main() { let mut a = 1; let r = &mut a;\na = 2; print(*r); }"
	taken    = "struct S { a: i64, b: Box<i64> } enum E { A, B(S) } struct T { }\nfn f(n: i64, m: i64) -> i64 { print(n); n / m }\nfn g(s: S) -> i64 { s.a + *s.b }\nfn main() { let mut a = read(); { let r = &mut a; *r = *r + 1; }\n  print(a); print(f(a, 2)); print(g(S { a: 1, b: Box::new(a) })); }"
	endless  = "fn f(n: i64) { while true { print(n); } }\nfn main() { print(1); f(2); }"
	deep     = "fn f(n: i64) -> i64 { 1 + f(n) }\nfn main() { print(f(0)); }"
	wrongEnd = "fn main() { print(1); print(1 / read()); }"
)

// tooLong is a source whose drops need too many blocks.
func tooLong() string {
	return "fn main() { let t = read() == 0; let mut b = Box::new(1);\n" + strings.Repeat("if t { b; } b = Box::new(1);\n", 300) + "}"
}

// 28.1: what each command tells, of sources that are taken, and of those with which something is wrong.
func TestCommands(t *testing.T) {
	for _, c := range []struct {
		command string
		told    [][2]string // of a source, what is told
	}{
		{"tokens", [][2]string{{noMain, "tokens 7"}, {noText, "wrong 110 12 13 1 13"}, {noTree, "tokens 11"}, {noTypes, "tokens 12"}, {"", "tokens 1"}, {"a b\n#", "wrong 111 4 5 2 1"}, {"a\n 1z", "wrong 112 3 5 2 2"}}},
		{"print", [][2]string{{noMain, "fn f ( ) { }"}, {noText, "wrong 110 12 13 1 13"}, {noTree, "wrong 120 18 19 2 7"}, {noTypes, "fn main ( ) { print ( true ) ; }"}, {"", ""}, {"\n\n// a", ""}, {"fn main() {\n print(1 + 2 * 3);\n}", "fn main ( ) { print ( 1 + ( 2 * 3 ) ) ; }"}}},
		{"items", [][2]string{{noMain, "wrong 144 0 0 1 1"}, {noText, "wrong 110 12 13 1 13"}, {noTree, "wrong 120 18 19 2 7"}, {noTypes, "wrong 160 20 24 3 8"}, {noCover, "items f main"}, {taken, "items S T E f g main"}, {noMoves, "items f main"}}},
		{"types", [][2]string{{noMain, "wrong 144 0 0 1 1"}, {noTypes, "wrong 160 20 24 3 8"}, {"fn main() { }", "types 1 0"}, {"fn f(a: i64) { let b = a; }\nfn main() { let c = true; }", "types 4 3"}, {noCover, "types 7 1"}}},
		{"check", [][2]string{{noMain, "wrong 144 0 0 1 1"}, {noText, "wrong 110 12 13 1 13"}, {noTree, "wrong 120 18 19 2 7"}, {noTypes, "wrong 160 20 24 3 8"}, {noCover, "wrong 170 38 63 2 13"}, {noMoves, "wrong 220 63 65 3 20"}, {noLoans, "wrong 240 73 78 3 1"}, {taken, "fine"}, {endless, "fine"}}},
		{"mir main", [][2]string{{noMain, "wrong 144 0 0 1 1"}, {noText, "wrong 110 12 13 1 13"}, {noTree, "wrong 120 18 19 2 7"}, {noTypes, "wrong 160 20 24 3 8"}, {noCover, "wrong 170 38 63 2 13"}, {"fn main() { print(1); }", "fn main ; 0: () ; 1: () ; bb0 ; _1 = call print 1 -> 1 ; bb1 ; _0 = () ; return"}, {noMoves, "fn main ; 0: () ; 1: Box<i64> ; 2: Box<i64> ; 3: i64 ; 4: () ; bb0 ; live _1 ; _1 = box 1 ; live _2 ; _2 = move _1 ; _3 = copy _1.* ; _4 = call print copy _3 -> 1 ; bb1 ; _0 = () ; drop _2 ; dead _2 ; drop _1 ; dead _1 ; return"}}},
		{"mir f", [][2]string{{noMoves, "fn f ; 0: () ; bb0 ; _0 = () ; return"}, {"fn main() { }", "none"}, {noMain, "wrong 144 0 0 1 1"}, {noCover, "wrong 170 38 63 2 13"}, {noLoans, "fn f ; 0: i64 ; 1: i64 ; 2: i64 ; bb0 ; _2 = copy _1 ; _0 = copy _2 * 2 ; dead _1 ; return"}}},
		{"moves main", [][2]string{{noCover, "wrong 170 38 63 2 13"}, {noMoves, "wrong 220 63 65 3 20"}, {"fn main() { }", "moves 0"}, {"fn main() { let a = 1; }", "moves 1"}, {noLoans, "moves 2"}, {"struct S { a: Box<i64>, b: i64 }\nfn f(s: S) -> Box<i64> { s.a }\nfn main() { }", "moves 0"}}},
		{"moves f", [][2]string{{noMain, "wrong 144 0 0 1 1"}, {"fn main() { }", "none"}, {noMoves, "wrong 220 63 65 3 20"}, {noLoans, "moves 1"}, {"struct S { a: Box<i64>, b: i64 }\nfn f(s: &mut S, c: bool) { if c { let t = 1; } }\nfn main() { }", "moves 1"}}},
		{"loans main", [][2]string{{noCover, "wrong 170 38 63 2 13"}, {noMoves, "wrong 220 63 65 3 20"}, {"fn main() { }", "loans 0 1 0 0 0 0"}, {"fn main() { let mut a = 1; let r = &mut a; *r = 2; }", "loans 1 9 0 2 2 3"}}},
		{"loans zz", [][2]string{{taken, "none"}, {tooLong(), told("wrong 2 0", len(tooLong())+1, 1, 1)}}}, {"moves zz", [][2]string{{tooLong(), "none"}}}, {"check", [][2]string{{tooLong(), told("wrong 2 0", len(tooLong())+1, 1, 1)}}},
		{"loans f", [][2]string{{noMain, "wrong 144 0 0 1 1"}, {"fn main() { }", "none"}, {noMoves, "wrong 220 63 65 3 20"}, {noLoans, "loans 0 3 0 0 0 0"}, {"fn f(r: &i64) -> &i64 { &*r }\nfn main() { }", "loans 1 2 1 0 3 0"}}},
		{"eval 30", [][2]string{{noMain, "wrong 144 0 0 1 1"}, {noCover, "wrong 170 38 63 2 13"}, {"fn main() { }", "eval done 0 1"}, {"fn main() { print(6 * 7); }", "eval done 0 6 42"}, {noMoves, "eval undefined 10"}, {endless, "eval fuel 30 1 2 2 2 2"}, {"fn main() { panic(); }", "eval done 103 3"}, {wrongEnd, "eval done 0 9 1 -1"}}},
		{"eval 0", [][2]string{{"fn main() { }", "eval fuel 0"}, {"fn main() { print(-3 - 4); }", "eval fuel 0"}}},
		{"eval 1000000", [][2]string{{deep, "eval fuel 5000"}, {taken, "eval done 0 45 0 0 0 1"}}},
		{"call main 9", [][2]string{{noMain, "wrong 144 0 0 1 1"}, {noTypes, "wrong 160 20 24 3 8"}, {noCover, "call done 103 0"}, {"fn main() { print(6 * 7); }", "call done 0 0 42"}, {noMoves, "call fuel 0"}, {endless, "call fuel 0 1"}}},
		{"call f 20 7 2", [][2]string{{noMain, "wrong 144 0 0 1 1"}, {taken, "call done 0 3 7"}, {"fn main() { }", "none"}, {noCover, "error 1"}, {noLoans, "error 1"}, {endless, "error 1"}}},
		{"call f 20 -7 0", [][2]string{{taken, "call done 102 0 -7"}}}, {"call g 9 1", [][2]string{{taken, "error 1"}, {"fn g(n: i64) -> bool { n == 0 }\nfn main() { }", "error 1"}}}, {"call f 9 -9223372036854775807", [][2]string{{noLoans, "call done 101 0"}, {noCover, "call done 0 -9223372036854775807"}, {endless, "call fuel 0 -9223372036854775807"}}}, {"call f 2", [][2]string{{noMoves, "call done 0 0"}, {noLoans, "error 1"}}}, {"call main 100", [][2]string{{noMoves, "call undefined 0"}, {noLoans, "call done 0 0 2"}}},
		{"image 1000", [][2]string{{noMain, "wrong 144 0 0 1 1"}, {noText, "wrong 110 12 13 1 13"}, {noTree, "wrong 120 18 19 2 7"}, {noTypes, "wrong 160 20 24 3 8"}, {noCover, "wrong 170 38 63 2 13"}, {noMoves, "wrong 220 63 65 3 20"}, {noLoans, "wrong 240 73 78 3 1"}, {taken, "image agrees"}, {endless, "image fuel"}, {deep, "image fuel"}, {wrongEnd, "image agrees"}, {"fn main() { panic(); }", "image agrees"}}},
		{"image 0", [][2]string{{taken, "image fuel"}, {noMain, "wrong 144 0 0 1 1"}}},
		{"place 0", [][2]string{{noMain, "place 1 1"}, {"", "place 1 1"}, {noText, "place 1 1"}}}, {"place 13", [][2]string{{noText, "place 2 2"}, {noTree, "place 2 2"}, {noMain, "error 1"}}}, {"place 11", [][2]string{{noMain, "place 2 1"}}}, {"place 1000000", [][2]string{{noMain, "error 1"}}},
	} {
		for _, x := range c.told {
			wantTold(t, x[0], []string{c.command}, []string{x[1]})
		}
	}
}
