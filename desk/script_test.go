package desk

import (
	"bytes"
	"math/rand"
	"strings"
	"testing"

	"patina/api"
)

// wantRun holds a script to its transcript.
func wantRun(t *testing.T, script, want string) {
	t.Helper()
	if got, at, e := Run(script); got != want || at != 0 || e != api.OK {
		t.Errorf("%.300q: %.300q %d %v, not %.300q", script, got, at, e, want)
	}
}

// wantForm holds a script to ErrForm at a line, with nothing done.
func wantForm(t *testing.T, script string, line int) {
	t.Helper()
	if got, at, e := Run(script); got != "" || at != line || e != api.ErrForm {
		t.Errorf("%.300q: %.300q %d %v, not in line %d", script, got, at, e, line)
	}
}

// 28.1: lines that are commands: their words by number and kind, and numbers at their edges.
func TestForms(t *testing.T) {
	for _, s := range []string{
		"tokens", "print", "items", "types", "check", "source", "input", "input 0", "input 0 1 1000000 256", "mir f", "moves _f", "loans F9", "eval 0", "eval 1000000", "call f 0", "call f 1000000 0", "call f 1 -1 9223372036854775807 -9223372036854775807 3 4 5 6 7", "image 0", "image 1000000", "place 0", "place 1000000",
		" tokens", "tokens  ", "  eval   7  ", "call  f  1   2", "mir " + strings.Repeat("n", api.MaxName), "mir source",
	} {
		if got, at, e := Run(s); strings.Count(got, "\n") != 1 || at != 0 || e != api.OK {
			t.Errorf("%q: %q %d %v", s, got, at, e)
		}
	}
	for _, s := range []string{
		"Tokens", "token", "tokens 1", "tokens x", "print 1", "print x", "items f", "types 0", "check check", "source x", "source |", "check\t", "check\r", "\tcheck", " ", "   ", " # a", "|", "|a", " |a", "\x00", "é", "\xff",
		"input -1", "input -0", "input 00", "input 01", "input +1", "input 1000001", "input 1 x", "input 1 2 3.0", "input 0x1", "input 1_0", "input 99999999999999999999", "mir", "mir f g", "mir 1", "mir f:", "mir E::V", "mir _", "mir é", "mir fn", "mir " + strings.Repeat("n", api.MaxName+1), "moves", "moves 1", "moves f 1", "loans", "loans -", "loans f f",
		"eval", "eval x", "eval -1", "eval 1000001", "eval 1 1", "eval 007", "eval -0", "eval 1.", "call", "call f", "call 1 1", "call f x", "call f -1", "call f 1000001", "call f 1 x", "call f 1 -0", "call f 1 00", "call f 1 9223372036854775808", "call f 1 -9223372036854775808", "call f 1 -9223372036854775809", "call f 1 2 +3", "image", "image x", "image -1", "image 1000001", "image 1 2", "place", "place -1", "place f", "place 1 2", "place 00", "place 1000001",
	} {
		wantForm(t, s, 1)
		wantForm(t, s+"\n", 1)
		wantForm(t, "check\n# a\n\n"+s+"\ncheck", 4)
	}
}

// 28.1: a desk's source and input, and what belongs to the command source.
func TestSourceLines(t *testing.T) {
	const main = "|fn main() { print(read()); }\n"
	for _, c := range [][2]string{
		{"", ""}, {"\n", ""}, {"\n\n# a\n#", ""}, {"tokens", "tokens 1\n"}, {"tokens\n", "tokens 1\n"}, {"source\ntokens", "ok\ntokens 1\n"}, {"source", "ok\n"}, {"source\n|", "ok\n"}, {"source\n|\n|\ntokens\nplace 2\nplace 3", "ok\ntokens 1\nplace 3 1\nerror 1\n"}, {"source\n|a\nplace 2\nplace 3", "ok\nplace 2 1\nerror 1\n"}, {"source\n|a", "ok\n"},
		{"source\n||\n|# a\ntokens", "ok\nwrong 111 0 1 1 1\n"}, {"source\n|a b\n| |c\ntokens", "ok\nwrong 111 5 6 2 2\n"}, {"source\n|a\nsource\ntokens", "ok\nok\ntokens 1\n"}, {"source\n|a\nsource\n|b c\ntokens", "ok\nok\ntokens 3\n"}, {"source\n|a\n\n#\ntokens\n", "ok\ntokens 2\n"}, {" source \n|a b c\ntokens", "ok\ntokens 4\n"},
		{"source\n" + main + "eval 99\ninput 65 66\neval 99\ninput\neval 99", "ok\neval done 0 4 -1\nok\neval done 0 4 65\nok\neval done 0 4 -1\n"}, {"source\n" + main + "input 255\neval 9\ninput 1 256 2\neval 9\ninput 1000000\neval 9\ninput 0\neval 9", "ok\nok\neval done 0 4 255\nerror 1\neval done 0 4 255\nerror 1\neval done 0 4 255\nok\neval done 0 4 0\n"}, {"input 7\nsource\n" + main + "call main 9\neval 9\nimage 9", "ok\nok\ncall done 0 0 -1\neval done 0 4 7\nimage agrees\n"},
		{"source\n|fn main() { while read() != 7 { } }\nimage 99\ninput 8 7\nimage 99\neval 99\ninput\nimage 99", "ok\nimage fuel\nok\nimage agrees\neval done 0 9\nok\nimage fuel\n"},
	} {
		wantRun(t, c[0], c[1])
	}
	for s, line := range map[string]int{
		"|a": 1, "|": 1, "check\n|a": 2, "source\n#\n|a": 3, "source\n\n|a": 3, "source\n|a\n#\n|b": 4, "source\n|a\ncheck\n|b": 4, "input 1\n|a": 2, "#\n|a": 2, "source\n|a\n |b": 3, "source 1\n|a": 1, "source\n|a\nb": 3, "check\nsource\n|a\n|b\nx\ny": 5,
	} {
		wantForm(t, s, line)
	}
}

// 28.1: ErrLong by bytes and by lines, ahead of ErrForm, and what is just not too long.
func TestLong(t *testing.T) {
	for _, c := range []struct {
		what, script string
		e            api.Errno
	}{
		{"bytes", "#" + strings.Repeat("a", api.MaxSource-1), api.OK}, {"a byte more", "#" + strings.Repeat("a", api.MaxSource), api.ErrLong}, {"bytes of a source", "source\n|" + strings.Repeat(" ", api.MaxSource-8), api.OK}, {"bytes that are no command", strings.Repeat("a", api.MaxSource+1), api.ErrLong}, {"a last byte 10 more", strings.Repeat("#", api.MaxSource) + "\n", api.ErrLong},
		{"lines", strings.Repeat("\n", MaxLines), api.OK}, {"a line without its end", strings.Repeat("\n", MaxLines-1) + "check", api.OK}, {"a line more", strings.Repeat("\n", MaxLines+1), api.ErrLong}, {"a line more without its end", strings.Repeat("\n", MaxLines) + "#", api.ErrLong}, {"lines of a source", "source\n" + strings.Repeat("|\n", MaxLines-1), api.OK}, {"a line more of a source", "source\n" + strings.Repeat("|\n", MaxLines), api.ErrLong}, {"lines that are no command", strings.Repeat("a\n", MaxLines+1), api.ErrLong},
	} {
		if got, at, e := Run(c.script); at != 0 || e != c.e || e != api.OK && got != "" {
			t.Error(c.what, got, at, e)
		}
	}
	wantForm(t, strings.Repeat("\n", MaxLines-1)+"a", MaxLines)
	if MaxLines != 2000 || MaxTranscript != 1<<20 {
		t.Error(MaxLines, MaxTranscript)
	}
}

// printing is a source line of so many statements and a name of so many bytes, and what print tells of it: four bytes for each statement.
func printing(statements, name int) (source, told string) {
	n := strings.Repeat("a", name)
	return "source\n|fn f() { " + strings.Repeat("1; ", statements) + n + " }\n", "fn f ( ) { " + strings.Repeat("1 ; ", statements) + n + " }\n"
}

// The transcript's end: behind the line with which there are too many bytes nothing more is done.
func TestFull(t *testing.T) {
	const prints = "print\n"
	source, line := printing(6000, 1)
	fit := (MaxTranscript - len("ok\n")) / len(line)
	script, told := source+strings.Repeat(prints, fit), "ok\n"+strings.Repeat(line, fit)
	wantRun(t, script, told)
	wantRun(t, script+prints, told+line+"full\n")
	wantRun(t, script+prints+"source\n|\ntokens\ncheck\nprint", told+line+"full\n")
	wantForm(t, script+prints+"b", 2+fit+2)
	_, least := printing(0, 0)
	left := MaxTranscript - len(told) - len("ok\n") - len(least)
	for more, end := range []string{"", "full\n", "full\n"} { // as many bytes as there may be are not too many
		k := 1 + (left+more-1)%4
		next, line := printing((left+more-k)/4, k)
		wantRun(t, script+next+prints, told+"ok\n"+line+end)
	}
}

// 28.3, 28.4: a script twice, its beginnings, notes among its lines.
func TestSame(t *testing.T) {
	lines := strings.SplitAfter("source\n|fn main() { let mut i = 0; while i < 4 { print(i * read()); i = i + 1; } }\n|fn f(n: i64) -> i64 { n / 2 }\ninput 3 4 5\ncheck\n# a\ntokens\nitems\ntypes\nmir main\nmoves main\nloans f\neval 1000\ncall f 10 9\nimage 1000\nsource\n|fn main() { let b = Box::new(1); let c = b; print(*b); }\nimage 9\nprint\nplace 5", "\n")
	whole, _, e := Run(strings.Join(lines, ""))
	again, _, _ := Run(strings.Join(lines, ""))
	if e != api.OK || whole != again {
		t.Fatal(e, whole, again)
	}
	noted := "#\n\n"
	for k, line := range lines {
		beginning, at, e := Run(strings.Join(lines[:k], ""))
		if !strings.HasPrefix(line, "|") && (at != 0 || e != api.OK || !strings.HasPrefix(whole, beginning)) {
			t.Error(k, beginning, at, e)
		}
		if !strings.HasPrefix(line, "|") {
			noted += "# |\n\n#check\n"
		}
		noted += line
	}
	wantRun(t, noted+"\n\n#", whole)
}

// P1: arbitrary bytes, and commands in any order, as scripts.
func TestAny(t *testing.T) {
	r := rand.New(rand.NewSource(28))
	for range 3000 {
		b := make([]byte, r.Intn(50))
		r.Read(b)
		wantAnswer(t, string(b))
	}
	words := strings.Fields("source input tokens print items types check mir moves loans eval call image place main f 0 1 9 20 255 256 -1 # | |fn |fn main() { } |}")
	parts := []string{"source\n", "|fn main() { print(1); f(2); }\n", "|fn f(n: i64) { let b = Box::new(n); if n == 2 { let c = b; } print(n); }\n", "|struct S { a: i64 }\n", "| } \n", "|\xff\n", "input 1 2\n", "tokens\n", "print\n", "items\n", "types\n", "check\n", "mir f\n", "mir main\n", "moves f\n", "loans main\n", "loans f\n", "eval 50\n", "call f 30 2\n", "call main 9\n", "image 90\n", "place 7\n", "# a\n", "\n"}
	fine := 0
	for range 4000 {
		var s strings.Builder
		for range 1 + r.Intn(12) {
			s.WriteString(parts[r.Intn(len(parts))])
		}
		if r.Intn(5) == 0 {
			for range 4 {
				s.WriteString(words[r.Intn(len(words))] + " ")
			}
		}
		if wantAnswer(t, s.String()) {
			fine++
		}
	}
	if fine < 200 {
		t.Error("seldom:", fine)
	}
}

// wantAnswer holds what a script tells to 28.1, as far as it hangs on nothing but forms; whether it was played.
func wantAnswer(t *testing.T, script string) bool {
	t.Helper()
	s, at, e := Run(script)
	lines := strings.Count(script, "\n") + 1
	switch e {
	case api.OK:
		if at != 0 || s != "" && !strings.HasSuffix(s, "\n") || strings.Count(s, "\n") > lines {
			t.Fatalf("%q: %q %d", script, s, at)
		}
	case api.ErrForm:
		if at < 1 || at > lines || s != "" {
			t.Fatalf("%q: %q %d", script, s, at)
		}
		ahead := bytes.SplitAfterN([]byte(script), []byte("\n"), at)[:at-1]
		if _, _, e := Run(string(bytes.Join(ahead, nil))); e != api.OK {
			t.Fatalf("%q: %d is not the first", script, at)
		}
	default:
		t.Fatalf("%q: %v", script, e)
	}
	return e == api.OK && s != ""
}
