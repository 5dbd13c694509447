package lex

import (
	"math"
	"slices"
	"strconv"
	"strings"
	"testing"
	"unsafe"

	"patina/api"
)

const (
	keywords = "fn struct enum let mut while if else match return break continue true false i64 bool Box"
	signs    = ":: -> => == != <= >= && || ( ) { } < > , ; : = + - * / % & ! . _"
)

func token(kind int, text string, num int64, from int) api.Token {
	return api.Token{Kind: kind, Text: text, Num: num, From: from, To: from + len(text)}
}

func end(at int) api.Token { return token(api.TkEnd, "", 0, at) }

func wantTokens(t *testing.T, source string, want ...api.Token) {
	t.Helper()
	l, d := Tokens(source)
	if d != (api.Diag{}) || !slices.Equal(l, want) {
		t.Errorf("Tokens(%.200q) tells %.400v, %v, not %.400v", source, l, d, want)
	}
}

func wantDiag(t *testing.T, source string, code api.Errno, from, to int) {
	t.Helper()
	l, d := Tokens(source)
	if d != (api.Diag{Code: code, From: from, To: to}) || len(l) != 0 {
		t.Errorf("Tokens(%.200q) tells %d tokens, %v, not %v %d %d", source, len(l), d, code, from, to)
	}
}

// kindOf is the kind of a keyword or a sign.
func kindOf(text string) int {
	if slices.Contains(strings.Fields(keywords), text) {
		return api.TkWord
	}
	return api.TkSign
}

// 11.1: the chapter's examples.
func TestExamples(t *testing.T) {
	wantTokens(t, "let x=12;// a", token(api.TkWord, "let", 0, 0), token(api.TkName, "x", 0, 4), token(api.TkSign, "=", 0, 5),
		token(api.TkNum, "12", 12, 6), token(api.TkSign, ";", 0, 8), end(13))
	wantDiag(t, "1a", api.ErrNumber, 0, 2)
	wantDiag(t, "a\xff", api.ErrUtf, 1, 2)
	wantDiag(t, "\u00e9", api.ErrByte, 0, 2)
	wantTokens(t, "// \u00e9", end(5))
}

// 11.1: no source, and sources as long as they may be, and longer.
func TestSourcesOfAllSizes(t *testing.T) {
	wantTokens(t, "", end(0))
	wantTokens(t, " ", end(1))
	wantTokens(t, strings.Repeat(" ", api.MaxSource), end(api.MaxSource))
	wantDiag(t, strings.Repeat(" ", api.MaxSource+1), api.ErrLong, 0, 0)
	wantDiag(t, strings.Repeat("\xff", api.MaxSource+1), api.ErrLong, 0, 0)
	wantDiag(t, strings.Repeat("\xff", api.MaxSource), api.ErrUtf, 0, 1)
	wantDiag(t, "|"+strings.Repeat("a", api.MaxSource), api.ErrLong, 0, 0)
	wantTokens(t, strings.Repeat(" ", api.MaxSource-1)+"a", token(api.TkName, "a", 0, api.MaxSource-1), end(api.MaxSource))
	wantTokens(t, "//"+strings.Repeat("/", api.MaxSource-2), end(api.MaxSource))
	l, d := Tokens(strings.Repeat("+", api.MaxSource))
	if d.Code != api.OK || len(l) != api.MaxSource+1 {
		t.Fatal(len(l), d)
	}
	for k, x := range l[:api.MaxSource] {
		if x != token(api.TkSign, "+", 0, k) {
			t.Fatal(k, x)
		}
	}
	wantDiag(t, strings.Repeat("+", api.MaxSource-1)+"|", api.ErrByte, api.MaxSource-1, api.MaxSource)
	wantDiag(t, strings.Repeat("9", api.MaxSource), api.ErrNumber, 0, api.MaxSource)
	wantDiag(t, strings.Repeat("a", api.MaxSource), api.ErrLong, 0, api.MaxSource)
	wantDiag(t, strings.Repeat(" ", api.MaxSource-1)+"\x80", api.ErrUtf, api.MaxSource-1, api.MaxSource)
}

// 11.1: each keyword, and names that are nearly one.
func TestKeywordsAndNames(t *testing.T) {
	for _, w := range strings.Fields(keywords) {
		wantTokens(t, w, token(api.TkWord, w, 0, 0), end(len(w)))
		wantTokens(t, "("+w+")", token(api.TkSign, "(", 0, 0), token(api.TkWord, w, 0, 1), token(api.TkSign, ")", 0, len(w)+1), end(len(w)+2))
		names := []string{w + "s", w + "_", w + "0", "_" + w, "x" + w, w + w, w[:1] + strings.ToUpper(w[1:]) + "Q", strings.ToUpper(w), w[:len(w)-1]}
		if w == "Box" {
			names = append(names, "box", "BoX", "Bo")
		}
		for _, n := range names {
			wantTokens(t, n, token(api.TkName, n, 0, 0), end(len(n)))
			if Word(n) || !Name(n) {
				t.Errorf("%q: Word tells %v, Name %v", n, Word(n), Name(n))
			}
		}
		if !Word(w) || Name(w) {
			t.Errorf("%q: Word tells %v, Name %v", w, Word(w), Name(w))
		}
	}
	for _, n := range []string{"a", "z", "A", "Z", "__", "_0", "_a", "___", "a0_", "azAZ09_", "new", "main", "print", "usize", "i", "i6", "i640", "Self", "for", "impl", strings.Repeat("n", api.MaxName), strings.Repeat("_", api.MaxName), "_" + strings.Repeat("9", api.MaxName-1)} {
		wantTokens(t, n, token(api.TkName, n, 0, 0), end(len(n)))
		if !Name(n) || Word(n) {
			t.Errorf("%q: Word tells %v, Name %v", n, Word(n), Name(n))
		}
	}
	for _, c := range []string{"n", "_", "Box"} {
		long := strings.Repeat(c, api.MaxName+1)[:api.MaxName+1]
		wantDiag(t, long, api.ErrLong, 0, len(long))
		wantDiag(t, " "+long+"\u00e9", api.ErrLong, 1, len(long)+1)
		wantDiag(t, "a+"+long+long, api.ErrLong, 2, 2*len(long)+2)
		if Name(long) || Word(long) {
			t.Errorf("%q: a name, or a keyword", long)
		}
	}
	wantTokens(t, "_", token(api.TkSign, "_", 0, 0), end(1))
	wantTokens(t, "_ _", token(api.TkSign, "_", 0, 0), token(api.TkSign, "_", 0, 2), end(3))
	wantTokens(t, "_=_", token(api.TkSign, "_", 0, 0), token(api.TkSign, "=", 0, 1), token(api.TkSign, "_", 0, 2), end(3))
	wantTokens(t, "a._b", token(api.TkName, "a", 0, 0), token(api.TkSign, ".", 0, 1), token(api.TkName, "_b", 0, 2), end(4))
}

// 11.1: Word and Name at texts that are neither.
func TestNeitherWordNorName(t *testing.T) {
	for _, s := range append(strings.Fields(signs), "", " ", "0", "0a", "9", "12", "a b", " a", "a ", "a\n", "fn ", " fn", "a-b", "a.b", "E::V", "a\x00", "\x00", "\u00e9", "a\u00e9", "\u00e9a",
		"a\xff", "\xff", "//", "a//", "|", "@", "[", "`", "a@", "a[", "a`", "a{", "a/", "a:", "FN", "1_") {
		if s != "FN" && Name(s) {
			t.Errorf("Name(%q)", s)
		}
		if Word(s) {
			t.Errorf("Word(%q)", s)
		}
	}
	for b := range 256 {
		s := string([]byte{byte(b)})
		letter := b >= 'a' && b <= 'z' || b >= 'A' && b <= 'Z'
		if Name(s) != letter || Name("q"+s) != (letter || b >= '0' && b <= '9' || b == '_') {
			t.Errorf("byte %d", b)
		}
	}
}

// 11.1: each sign, and each byte that begins none.
func TestSigns(t *testing.T) {
	begins := map[byte]int{}
	for _, s := range strings.Fields(signs) {
		wantTokens(t, s, token(api.TkSign, s, 0, 0), end(len(s)))
		wantTokens(t, "\t"+s+"\n", token(api.TkSign, s, 0, 1), end(len(s)+2))
		if len(s) == 1 {
			begins[s[0]]++
		}
	}
	for b := range 128 {
		c := byte(b)
		if begins[c] > 0 || isDigit(c) || isLetter(c) || strings.IndexByte(" \t\n\r", c) >= 0 {
			continue
		}
		wantDiag(t, string([]byte{c}), api.ErrByte, 0, 1)
		wantDiag(t, string([]byte{'a', c, 'a'}), api.ErrByte, 1, 2)
		wantDiag(t, string([]byte{'+', c, '='}), api.ErrByte, 1, 2)
	}
	for _, c := range []struct{ source, want string }{
		{"===", "== ="}, {"<==", "<= ="}, {">==", ">= ="}, {"!==", "!= ="}, {"=>=", "=> ="}, {"==>", "== >"}, {"=>>", "=> >"}, {"&&&", "&& &"}, {"&&&&", "&& &&"},
		{":::", ":: :"}, {"->>", "-> >"}, {"-->", "- ->"}, {"->=", "-> ="}, {"-=", "- ="}, {"+=", "+ ="}, {">>", "> >"}, {"<<", "< <"}, {"<-", "< -"}, {"=<", "= <"},
		{"||||", "|| ||"}, {"!!", "! !"}, {"!=!", "!= !"}, {"..", ". ."}, {"**", "* *"}, {"*/", "* /"}, {"/*", "/ *"}, {"/=", "/ ="}, {"&=", "& ="}, {"&mut", "& mut"},
		{":=", ": ="}, {"=:", "= :"}, {"a:b", "a : b"}, {"a::b", "a :: b"}, {"Box<Box<i64>>=", "Box < Box < i64 > >="}, {"Box::new(1)", "Box :: new ( 1 )"},
		{"(){}", "( ) { }"}, {"%%", "% %"}, {"_,_", "_ , _"}, {"1.2", "1 . 2"}, {"a.1", "a . 1"}, {"-1", "- 1"}, {"- 1", "- 1"}, {"a-1", "a - 1"}, {"_:", "_ :"},
	} {
		l, d := Tokens(c.source)
		if s, e := Print(l); d.Code != api.OK || e != api.OK || s != c.want {
			t.Errorf("%q: %q, %v, %v", c.source, s, d, e)
		}
	}
	wantDiag(t, "|", api.ErrByte, 0, 1)
	wantDiag(t, "|||", api.ErrByte, 2, 3)
	wantDiag(t, "| |", api.ErrByte, 0, 1)
	wantDiag(t, "a|b", api.ErrByte, 1, 2)
	wantDiag(t, "|=", api.ErrByte, 0, 1)
}

// 11.1: numbers, as great as they may be, and greater, and with letters behind.
func TestNumbers(t *testing.T) {
	for _, c := range []struct {
		text string
		num  int64
	}{
		{"0", 0}, {"1", 1}, {"9", 9}, {"10", 10}, {"00", 0}, {"007", 7}, {"0123456789", 123456789}, {"4294967296", 1 << 32}, {"2147483648", 1 << 31},
		{"9223372036854775807", math.MaxInt64}, {"09223372036854775807", math.MaxInt64}, {"9223372036854775806", math.MaxInt64 - 1}, {"1000000000000000000", 1e18},
		{strings.Repeat("0", 1000), 0}, {strings.Repeat("0", 60000) + "42", 42},
	} {
		wantTokens(t, c.text, token(api.TkNum, c.text, c.num, 0), end(len(c.text)))
		wantTokens(t, "-"+c.text+".", token(api.TkSign, "-", 0, 0), token(api.TkNum, c.text, c.num, 1), token(api.TkSign, ".", 0, len(c.text)+1), end(len(c.text)+2))
	}
	for _, s := range []string{"9223372036854775808", "9223372036854775810", "09223372036854775808", "10000000000000000000", "18446744073709551615", "18446744073709551616", "18446744073709551617",
		"36893488147419103233", "99999999999999999999", strings.Repeat("9", 500), "1" + strings.Repeat("0", 30000),
		"1a", "1_", "0_", "0x10", "1e5", "1i64", "12fn", "1_000", "0b", "1A", "1Z", "1z", "1_a2B3__", "9223372036854775807a", "9223372036854775808a", "0_a"} {
		wantDiag(t, s, api.ErrNumber, 0, len(s))
		wantDiag(t, "a "+s+" |", api.ErrNumber, 2, 2+len(s))
		wantDiag(t, s+"-"+s, api.ErrNumber, 0, len(s))
		wantDiag(t, s+"\u00e9", api.ErrNumber, 0, len(s))
	}
	wantDiag(t, "1\u00e9", api.ErrByte, 1, 3)
	wantDiag(t, "1@", api.ErrByte, 1, 2)
	wantTokens(t, "1 a", token(api.TkNum, "1", 1, 0), token(api.TkName, "a", 0, 2), end(3))
	wantTokens(t, "1//a", token(api.TkNum, "1", 1, 0), end(4))
	wantTokens(t, "a1 1", token(api.TkName, "a1", 0, 0), token(api.TkNum, "1", 1, 3), end(4))
}

// 11.1: blanks of every kind, and letters that look like one.
func TestBlanks(t *testing.T) {
	a := func(from int) api.Token { return token(api.TkName, "a", 0, from) }
	for _, b := range []string{" ", "\t", "\n", "\r", "\r\n", " \t\r\n", "\n\n\n"} {
		wantTokens(t, b, end(len(b)))
		wantTokens(t, "a"+b+"a", a(0), a(1+len(b)), end(2+len(b)))
		wantTokens(t, b+"a"+b, a(len(b)), end(1+2*len(b)))
		wantTokens(t, "="+b+"=", token(api.TkSign, "=", 0, 0), token(api.TkSign, "=", 0, 1+len(b)), end(2+len(b)))
	}
	for _, b := range []string{"\x00", "\v", "\f", "\b", "\x1c", "\x1f", "\x7f", "\u0085", "\u00a0", "\u1680", "\u2000", "\u2003", "\u200b", "\u2028", "\u2029", "\u202f", "\u3000", "\ufeff"} {
		wantDiag(t, b, api.ErrByte, 0, len(b))
		wantDiag(t, "a "+b+"a", api.ErrByte, 2, 2+len(b))
		wantDiag(t, "a"+b, api.ErrByte, 1, 1+len(b))
	}
}

// 11.1: remarks.
func TestRemarks(t *testing.T) {
	a := func(from int) api.Token { return token(api.TkName, "a", 0, from) }
	slash := func(from int) api.Token { return token(api.TkSign, "/", 0, from) }
	wantTokens(t, "//", end(2))
	wantTokens(t, "//\n", end(3))
	wantTokens(t, "///", end(3))
	wantTokens(t, "//// fn 1a |", end(12))
	wantTokens(t, "a//b", a(0), end(4))
	wantTokens(t, "a//b\n", a(0), end(5))
	wantTokens(t, "a//b\na", a(0), a(5), end(6))
	wantTokens(t, "a // b\n\n// c\r\n a", a(0), a(15), end(16))
	wantTokens(t, "//a\ra\n", end(6)) // a byte 13 ends no remark
	wantTokens(t, "//a\ra", end(5))
	wantTokens(t, "//\u00e9\u20ac\U0001f600 \ufffd\na", a(16), end(17))
	wantTokens(t, "a/ /a", a(0), slash(1), slash(3), a(4), end(5))
	wantTokens(t, "a/\n/a", a(0), slash(1), slash(3), a(4), end(5))
	wantTokens(t, "/", slash(0), end(1))
	wantTokens(t, "a/a", a(0), slash(1), a(2), end(3))
	wantTokens(t, "*//", token(api.TkSign, "*", 0, 0), end(3))
	wantTokens(t, "//\x00\x01|@9a\n", end(9))
	wantTokens(t, "//"+strings.Repeat("n", 100), end(102))
	wantDiag(t, "// a\n|", api.ErrByte, 5, 6)
	wantDiag(t, "a /* b */ |", api.ErrByte, 10, 11)
	wantDiag(t, "// a\n9a", api.ErrNumber, 5, 7)
}

// 11.1: which of several errors is told.
func TestFirstError(t *testing.T) {
	long := strings.Repeat("n", api.MaxName+1)
	for _, c := range []struct {
		source   string
		code     api.Errno
		from, to int
	}{
		{"| 1a " + long, api.ErrByte, 0, 1}, {"1a | " + long, api.ErrNumber, 0, 2}, {long + " | 1a", api.ErrLong, 0, 65}, {long + "| 1a", api.ErrLong, 0, 65},
		{"| 1a " + long + "\xff", api.ErrUtf, 70, 71}, {"1a\xff", api.ErrUtf, 2, 3}, {long + "\xff", api.ErrUtf, 65, 66}, {"|\xff|\xff", api.ErrUtf, 1, 2},
		{"// \xff", api.ErrUtf, 3, 4}, {"// \xff\n", api.ErrUtf, 3, 4}, {"| // \xc3", api.ErrUtf, 5, 6}, {"\u00e9\xff", api.ErrUtf, 2, 3}, {"\xff\u00e9", api.ErrUtf, 0, 1},
		{"\u00e9\u00e8", api.ErrByte, 0, 2}, {"a\u20ac", api.ErrByte, 1, 4}, {"a \U0001f600", api.ErrByte, 2, 6}, {"\U0010ffff", api.ErrByte, 0, 4}, {"\ufffd", api.ErrByte, 0, 3},
		{"a\ufffd\xff", api.ErrUtf, 4, 5}, {"\"", api.ErrByte, 0, 1}, {"'a'", api.ErrByte, 0, 1}, {"a[0]", api.ErrByte, 1, 2}, {"#", api.ErrByte, 0, 1},
	} {
		wantDiag(t, c.source, c.code, c.from, c.to)
	}
}

// 11.2: Print of each kind, and of ends wherever they stand.
func TestPrint(t *testing.T) {
	word := api.Token{Kind: api.TkWord, Text: "let", Num: 9, From: -4, To: 1 << 40}
	name := api.Token{Kind: api.TkName, Text: "x", Num: -1, From: 7, To: 3}
	sign := api.Token{Kind: api.TkSign, Text: "=", Num: math.MinInt64}
	num := api.Token{Kind: api.TkNum, Text: "12", Num: 12, From: 99}
	none := api.Token{Kind: api.TkEnd, Num: 5, From: -1, To: -2}
	for _, c := range []struct {
		l    []api.Token
		want string
	}{
		{nil, ""}, {[]api.Token{}, ""}, {[]api.Token{none}, ""}, {[]api.Token{none, none}, ""}, {[]api.Token{name}, "x"}, {[]api.Token{name, none}, "x"}, {[]api.Token{none, name}, "x"},
		{[]api.Token{word, name, sign, num}, "let x = 12"}, {[]api.Token{none, word, none, none, name, sign, none, num, none, none}, "let x = 12"}, {[]api.Token{name, name, name}, "x x x"},
	} {
		given := slices.Clone(c.l)
		s, e := Print(c.l)
		if e != api.OK || s != c.want || !slices.Equal(given, c.l) {
			t.Errorf("Print(%v) tells %q, %v", c.l, s, e)
		}
	}
	for _, w := range strings.Fields(keywords + " " + signs) {
		if s, e := Print([]api.Token{{Kind: kindOf(w), Text: w}}); s != w || e != api.OK {
			t.Errorf("%q: %q, %v", w, s, e)
		}
	}
	for _, n := range []int64{0, 1, 10, math.MaxInt64} {
		text := strconv.FormatInt(n, 10)
		if s, e := Print([]api.Token{{Kind: api.TkNum, Text: text, Num: n}}); s != text || e != api.OK {
			t.Errorf("%q: %q, %v", text, s, e)
		}
	}
}

// 11.2: tokens that have not the form of their kind, by themselves, ahead of others and behind them.
func TestPrintOfNone(t *testing.T) {
	good := api.Token{Kind: api.TkName, Text: "x"}
	wrong := func(kind int, text string, num int64) {
		t.Helper()
		bad := api.Token{Kind: kind, Text: text, Num: num}
		for _, l := range [][]api.Token{{bad}, {good, bad}, {bad, good}, {good, bad, good}} {
			if s, e := Print(l); s != "" || e != api.ErrForm {
				t.Errorf("Print(%v) tells %q, %v", l, s, e)
			}
		}
	}
	for _, kind := range []int{0, 6, -1, 7, math.MaxInt, math.MinInt} {
		for _, text := range []string{"", "x", "fn", "1", "+"} {
			wrong(kind, text, 1)
		}
	}
	others := map[int][]string{
		api.TkName: append(strings.Fields(keywords+" "+signs), "", "1", "1a", "a b", "a ", " a", "a//", "\u00e9", "a\xff", "|", "a+", strings.Repeat("n", api.MaxName+1), "E::V"),
		api.TkWord: append(strings.Fields(signs), "", "x", "1", "Fn", "fn ", " fn", "fn fn", "fnfn", "new", "_a"),
		api.TkSign: append(strings.Fields(keywords), "", "x", "1", "|", "//", "/ ", " /", "===", "-->", "+ +", "::a", "__", "_a", "_ ", "\u00e9", "\x00", "..", "( )"),
		api.TkNum:  append(strings.Fields(keywords+" "+signs), "", "x", "1a", "1 ", " 1", "1_", "+1", "9223372036854775808", "0x1"),
		api.TkEnd:  append(strings.Fields(keywords+" "+signs), "x", "1", " ", "\n", "//"),
	}
	for kind, texts := range others {
		for _, text := range texts {
			wrong(kind, text, 0)
		}
	}
	for _, c := range []struct {
		text string
		num  int64
	}{
		{"1", 2}, {"1", 0}, {"01", 1}, {"00", 0}, {"-1", -1}, {"1", -1}, {"-0", 0}, {"+0", 0}, {"9223372036854775807", math.MinInt64}, {"9223372036854775808", math.MinInt64},
		{"-9223372036854775808", math.MinInt64}, {"18446744073709551617", 1}, {"", 0}, {"1 ", 1}, {"10", 1}, {"1", 10}, {strings.Repeat("0", 100), 0},
	} {
		wrong(api.TkNum, c.text, c.num)
	}
}

// 11.2: as many tokens as there may be, and one more, right or not.
func TestPrintOfMany(t *testing.T) {
	most := slices.Repeat([]api.Token{{Kind: api.TkNum, Text: "7", Num: 7}}, api.MaxSource)
	if s, e := Print(most); e != api.OK || s != strings.Repeat(" 7", api.MaxSource)[1:] {
		t.Errorf("%d bytes, %v", len(s), e)
	}
	more := append(slices.Clone(most), api.Token{Kind: api.TkEnd})
	if s, e := Print(more); s != "" || e != api.ErrLong {
		t.Errorf("one more: %d bytes, %v", len(s), e)
	}
	if s, e := Print(make([]api.Token, api.MaxSource+1)); s != "" || e != api.ErrLong {
		t.Errorf("one more, and wrong: %d bytes, %v", len(s), e)
	}
	most[api.MaxSource-1].Kind = 0
	if s, e := Print(most); s != "" || e != api.ErrForm {
		t.Errorf("the last one wrong: %d bytes, %v", len(s), e)
	}
	if s, e := Print(slices.Repeat([]api.Token{{Kind: api.TkEnd}}, api.MaxSource)); s != "" || e != api.OK {
		t.Errorf("ends: %d bytes, %v", len(s), e)
	}
	long := slices.Repeat([]api.Token{{Kind: api.TkName, Text: strings.Repeat("n", api.MaxName)}}, api.MaxSource)
	if s, e := Print(long); e != api.OK || len(s) != api.MaxSource*(api.MaxName+1)-1 {
		t.Errorf("long names: %d bytes, %v", len(s), e)
	}
}

// 11.3: lines and columns.
func TestPlace(t *testing.T) {
	for _, c := range []struct {
		source       string
		at           int
		line, column int
		e            api.Errno
	}{
		{"", 0, 1, 1, api.OK}, {"", 1, 0, 0, api.ErrArg}, {"", -1, 0, 0, api.ErrArg}, {"a", 0, 1, 1, api.OK}, {"a", 1, 1, 2, api.OK}, {"a", 2, 0, 0, api.ErrArg},
		{"\n", 0, 1, 1, api.OK}, {"\n", 1, 2, 1, api.OK}, {"\n\n\n", 2, 3, 1, api.OK}, {"\n\n\n", 3, 4, 1, api.OK},
		{"a\nbc", 0, 1, 1, api.OK}, {"a\nbc", 1, 1, 2, api.OK}, {"a\nbc", 2, 2, 1, api.OK}, {"a\nbc", 3, 2, 2, api.OK}, {"a\nbc", 4, 2, 3, api.OK}, {"a\nbc", 5, 0, 0, api.ErrArg},
		{"a\r\nb", 2, 1, 3, api.OK}, {"a\r\nb", 3, 2, 1, api.OK}, {"a\rb", 2, 1, 3, api.OK}, {"\u00e9\nb", 2, 1, 3, api.OK}, {"\u00e9\nb", 1, 1, 2, api.OK}, {"\xff\n\xff", 3, 2, 2, api.OK},
		{"ab", math.MinInt, 0, 0, api.ErrArg}, {"ab", math.MaxInt, 0, 0, api.ErrArg}, {"\v\f\u2028", 5, 1, 6, api.OK},
	} {
		if line, column, e := Place(c.source, c.at); line != c.line || column != c.column || e != c.e {
			t.Errorf("Place(%q, %d) tells %d, %d, %v", c.source, c.at, line, column, e)
		}
	}
	most := strings.Repeat("\n", api.MaxSource)
	if line, column, e := Place(most, api.MaxSource); line != api.MaxSource+1 || column != 1 || e != api.OK {
		t.Error(line, column, e)
	}
	if line, column, e := Place(strings.Repeat("a", api.MaxSource), api.MaxSource); line != 1 || column != api.MaxSource+1 || e != api.OK {
		t.Error(line, column, e)
	}
	for _, at := range []int{0, -1, api.MaxSource + 2} {
		if line, column, e := Place(most+"a", at); line != 0 || column != 0 || e != api.ErrLong {
			t.Error(at, line, column, e)
		}
	}
}

// 11.3: at each byte of a source, counted one by one.
func TestPlaceOfEachByte(t *testing.T) {
	source := "fn main() {\n\n\tlet x = 1; // \u00e9\r\n}\n"
	line, column := 1, 1
	for at := range len(source) + 1 {
		if a, b, e := Place(source, at); a != line || b != column || e != api.OK {
			t.Errorf("%d: %d, %d, %v, not %d, %d", at, a, b, e, line, column)
		}
		column++
		if at < len(source) && source[at] == '\n' {
			line, column = line+1, 1
		}
	}
}

// R3: what is told shares no memory with the source, or with another answer.
func TestTokensAreNew(t *testing.T) {
	source := "fn main ( ) { let x1 = 12 ; } // a"
	a, _ := Tokens(source)
	b, _ := Tokens(source)
	low := uintptr(unsafe.Pointer(unsafe.StringData(source)))
	for k, x := range a {
		if x.Text == "" {
			continue
		}
		p := uintptr(unsafe.Pointer(unsafe.StringData(x.Text)))
		if p >= low && p < low+uintptr(len(source)) {
			t.Errorf("%q is a piece of the source", x.Text)
		}
		if x != b[k] {
			t.Errorf("%v, then %v", x, b[k])
		}
	}
	for k := range a[:cap(a)] {
		a[:cap(a)][k] = api.Token{Kind: 77}
	}
	c, _ := Tokens(source)
	if !slices.Equal(b, c) {
		t.Error("an answer changed with another one")
	}
	l := []api.Token{{Kind: api.TkName, Text: strings.Clone("name")}}
	if s, _ := Print(l); unsafe.StringData(s) == unsafe.StringData(l[0].Text) {
		t.Error("Print tells a text that was handed in")
	}
}
