package mir

import (
	"strings"
	"testing"

	"patina/api"
)

// wantText holds the text of main to what it was read from, letter by letter.
func wantText(t *testing.T, body string) {
	t.Helper()
	m := withMain(t, body)
	want := "fn main\n" + locals + body
	if s, e := Text(m, 2); s != want || e != api.OK {
		t.Errorf("%v\n%s\nnot\n%s", e, s, want)
	}
}

// 19.2: the text of each kind of statement, operand, rvalue, place and terminator.
func TestText(t *testing.T) {
	wantText(t, "bb0\nreturn\n")
	for _, line := range []string{
		"_1 = copy _1", "_3 = move _3", "_1 = 0", "_1 = -9223372036854775808", "_1 = 9223372036854775807", "_2 = true", "_2 = false", "_0 = ()",
		"_1 = copy _4.0", "_3 = move _4.1", "_1 = copy _3.*", "_1 = copy _7.@1", "_1 = copy _8.*.@2.1.*", "_4.0 = 1", "_4.1.* = 2", "_7.@1 = 3", "_9.1.@2.0 = 4", "_12 = move _14.*.3.*.@1.*",
		"_1 = 1 + 2", "_1 = copy _1 - 3", "_1 = 4 * copy _4.0", "_1 = 1 / 0", "_1 = -1 % -2", "_2 = 1 < 2", "_2 = 1 <= 2", "_2 = 1 > 2", "_2 = 1 >= 2", "_2 = 1 == 2", "_2 = true != copy _2",
		"_1 = neg 1", "_1 = neg copy _1", "_2 = not true", "_16 = ref _1", "_5 = ref _9.0", "_6 = mut _4", "_17 = mut _6.*.0", "_3 = box 1", "_10 = box move _4",
		"_4 = make S 1 move _3", "_11 = make N", "_9 = make P move _4 move _7 () move _9.3", "_7 = pick E 0", "_7 = pick E 1 copy _1", "_7 = pick E 2 move _4", "_1 = tag _7", "_1 = tag _8.*",
		"drop _3", "drop _4.1", "drop _7.@2.1", "free _15", "free _15.*", "live _0", "live _20", "dead _1",
	} {
		wantText(t, "bb0\n"+line+"\nreturn\n")
		wantText(t, "bb0\nlive _1\n"+line+"\ndead _1\n"+line+"\ngoto 1\nbb1\n"+line+"\npanic 101\n")
	}
	for _, line := range []string{
		"goto 1", "goto 0", "if copy _2 1 2", "if true 2 2", "if false 0 1", "switch copy _1 2", "switch 5 -3 1 2", "switch copy _1 0 1 1 2 0", "switch copy _4.0 -9223372036854775808 0 -1 1 9223372036854775807 2 1",
		"_0 = call print 1 -> 1", "_0 = call print copy _1 -> 2", "_1 = call read -> 1", "_4.0 = call read -> 0", "_3 = call g -> 1", "_5 = call f 1 copy _5 move _10 -> 2", "_0 = call main -> 0",
		"return", "panic 101", "panic 102", "panic 103",
	} {
		wantText(t, "bb0\n"+line+"\nbb1\nreturn\nbb2\npanic 103\n")
	}
}

// 19.2: the chapter's words, beside what is read back.
func TestTextWords(t *testing.T) {
	m := withMain(t, "bb0\nswitch copy _1 0 4 1 5 6\n"+strings.Repeat("bb\nreturn\n", 6))
	s, _ := Text(m, 2)
	for _, line := range []string{"fn main\n0: ()\n1: i64\n", "\n6: &mut S\n", "\n20: &bool\nbb0\nswitch copy _1 0 4 1 5 6\nbb1\nreturn\nbb2\n", "bb6\nreturn\n"} {
		if !strings.Contains(s, line) {
			t.Errorf("%q\n%s", line, s)
		}
	}
	for f, want := range []string{fText, gText} {
		if s, e := Text(m, f); s != want || e != api.OK {
			t.Errorf("%q %v", s, e)
		}
	}
	m.Fns[1].Locals[1] = api.Local{Name: "x", Type: "Box<i64>", Mut: true}
	if s, e := Text(m, 1); s != gText || e != api.OK {
		t.Errorf("%q %v", s, e)
	}
}
