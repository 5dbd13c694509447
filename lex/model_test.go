package lex

import (
	"math/big"
	"math/rand"
	"regexp"
	"slices"
	"strings"
	"testing"

	"patina/api"
)

var (
	between = regexp.MustCompile(`^(?:[ \t\n\r]|//[^\n]*)*`)
	piece   = regexp.MustCompile(`^(?:[A-Za-z_0-9]+|::|->|=>|==|!=|<=|>=|&&|\|\||[(){}<>,;:=+*/%&!.-]|(?s:.))`)
	begins  = regexp.MustCompile(`^(?:[A-Za-z_0-9]|\|\||[(){}<>,;:=+*/%&!.-])`)
)

// letterSize is how many bytes the letter has that bytes begin with, by the table of well-formed bytes; 0: it is none.
func letterSize(s string) int {
	rows := []struct{ from, to, second, last byte }{ // the first byte's range, and the second one's
		{0x00, 0x7f, 0, 0}, {0xc2, 0xdf, 0x80, 0xbf}, {0xe0, 0xe0, 0xa0, 0xbf}, {0xe1, 0xec, 0x80, 0xbf}, {0xed, 0xed, 0x80, 0x9f},
		{0xee, 0xef, 0x80, 0xbf}, {0xf0, 0xf0, 0x90, 0xbf}, {0xf1, 0xf3, 0x80, 0xbf}, {0xf4, 0xf4, 0x80, 0x8f},
	}
	for _, r := range rows {
		if s[0] < r.from || s[0] > r.to {
			continue
		}
		size := 1
		for _, least := range []byte{0xc2, 0xe0, 0xf0} {
			if s[0] >= least {
				size++
			}
		}
		if len(s) < size || size > 1 && (s[1] < r.second || s[1] > r.last) {
			return 0
		}
		for k := 2; k < size; k++ {
			if s[k] < 0x80 || s[k] > 0xbf {
				return 0
			}
		}
		return size
	}
	return 0
}

// model cuts a source by patterns.
func model(source string) ([]api.Token, api.Diag) {
	if len(source) > api.MaxSource {
		return nil, api.Diag{Code: api.ErrLong}
	}
	for at := 0; at < len(source); {
		n := letterSize(source[at:])
		if n == 0 {
			return nil, api.Diag{Code: api.ErrUtf, From: at, To: at + 1}
		}
		at += n
	}
	var l []api.Token
	for at := 0; ; {
		at += len(between.FindString(source[at:]))
		if at == len(source) {
			return append(l, api.Token{Kind: api.TkEnd, From: at, To: at}), api.Diag{}
		}
		x, e := modelToken(source[at:])
		if e != api.OK {
			return nil, api.Diag{Code: e, From: at, To: at + len(x.Text)}
		}
		x.From, x.To = at, at+len(x.Text)
		l = append(l, x)
		at = x.To
	}
}

func modelToken(s string) (api.Token, api.Errno) {
	x := api.Token{Kind: api.TkSign, Text: piece.FindString(s)}
	if !begins.MatchString(s) {
		return x, api.ErrByte
	}
	if slices.Contains(strings.Fields(signs), x.Text) {
		return x, api.OK
	}
	if x.Text[0] >= '0' && x.Text[0] <= '9' {
		n, ok := new(big.Int).SetString(x.Text, 10)
		if !ok || strings.Contains(x.Text, "_") || !n.IsInt64() {
			return x, api.ErrNumber
		}
		x.Kind, x.Num = api.TkNum, n.Int64()
		return x, api.OK
	}
	x.Kind = api.TkName
	if slices.Contains(strings.Fields(keywords), x.Text) {
		x.Kind = api.TkWord
	}
	if len(x.Text) > api.MaxName {
		return x, api.ErrLong
	}
	return x, api.OK
}

// against holds Tokens to the model, and what it tells to 11.4.
func against(t *testing.T, source string) {
	t.Helper()
	l, d := Tokens(source)
	want, wantD := model(source)
	if d != wantD || !slices.Equal(l, want) {
		t.Fatalf("Tokens(%q) tells %v, %v, not %v, %v", source, l, d, want, wantD)
	}
	if d.Code != api.OK {
		if d.From < 0 || d.From > d.To || d.To > len(source) {
			t.Fatalf("%q: %v is not within", source, d)
		}
		return
	}
	at := 0
	for k, x := range l {
		if x.From < at || x.To < x.From || x.Text != source[x.From:x.To] || (x.Kind == api.TkEnd) != (k == len(l)-1) || x.Kind != api.TkEnd && x.To == x.From {
			t.Fatalf("%q: token %d is %v", source, k, x)
		}
		if gap := source[at:x.From]; between.FindString(gap) != gap {
			t.Fatalf("%q: %q is left out", source, gap)
		}
		at = x.To
	}
	if at != len(source) {
		t.Fatalf("%q: ends at %d", source, at)
	}
	backAgain(t, source, l)
}

// backAgain holds Tokens of Print to 11.4, where the numbers have the one form that Print takes.
func backAgain(t *testing.T, source string, l []api.Token) {
	t.Helper()
	odd := slices.ContainsFunc(l, func(x api.Token) bool { return x.Kind == api.TkNum && x.Text != "0" && x.Text[0] == '0' })
	s, e := Print(l)
	if odd != (e == api.ErrForm) || !odd && e != api.OK {
		t.Fatalf("%q: Print tells %v", source, e)
	}
	if odd {
		return
	}
	back, d := Tokens(s)
	if d.Code != api.OK || len(back) != len(l) {
		t.Fatalf("%q: %d tokens of %q, %v", source, len(back), s, d)
	}
	for k, x := range back {
		if x.Kind != l[k].Kind || x.Text != l[k].Text || x.Num != l[k].Num {
			t.Fatalf("%q: %v comes back as %v", source, l[k], x)
		}
	}
	if again, e := Print(back); again != s || e != api.OK {
		t.Fatalf("%q: Print tells %q, then %q", source, s, again)
	}
}

// P9, 11.1, 11.4: two and three pieces of any kind right behind one another.
func TestPiecesBehindPieces(t *testing.T) {
	l := append(strings.Fields(signs), "a", "_a", "fn", "Box", "0", "7", "07", "9223372036854775807", "9223372036854775808", " ", "\t", "\n", "\r", "//", "// a", "|", "@", "\x00", "\v",
		"\u00e9", "\ufffd", "\U0001f600", "\xff", "\x80", "\xc3", "\xe2\x82", "\xed\xa0\x80", strings.Repeat("n", 64), strings.Repeat("n", 65))
	for _, a := range l {
		against(t, a)
		for _, b := range l {
			against(t, a+b)
			for _, c := range l {
				against(t, a+b+c)
			}
		}
	}
}

// P1, 11.1, 11.4: long rows of pieces, and of arbitrary bytes.
func TestAnyPieces(t *testing.T) {
	r := rand.New(rand.NewSource(11))
	l := append(strings.Fields(signs+" "+keywords), "a", "x1", "_q", "1", "23", "0", " ", " ", " ", "\n", "\t", "\r", "// r\n", "//\n", "/")
	for range 4000 {
		var b strings.Builder
		for range r.Intn(60) {
			b.WriteString(l[r.Intn(len(l))])
			if r.Intn(3) > 0 {
				b.WriteByte(" \n\t\r"[r.Intn(4)])
			}
		}
		against(t, b.String())
	}
	for range 20000 {
		b := make([]byte, r.Intn(12))
		for k := range b {
			b[k] = byte(r.Intn(256))
			if r.Intn(2) == 0 {
				b[k] = byte(r.Intn(128))
			}
		}
		against(t, string(b))
		against(t, "//"+string(b))
	}
	for _, n := range []int{api.MaxSource - 1, api.MaxSource, api.MaxSource + 1} {
		b := make([]byte, n)
		for k := range b {
			b[k] = "ab1 +=\n/"[r.Intn(8)]
		}
		against(t, string(b))
	}
}

// 11.1: bytes are letters just if the table of well-formed bytes says so, and else the first is told, wherever it stands.
func TestLettersOfBytes(t *testing.T) {
	edges := []byte{0x00, 'a', 0x7f, 0x80, 0x8f, 0x90, 0x9f, 0xa0, 0xbf, 0xc0, 0xc1, 0xc2, 0xdf, 0xe0, 0xe1, 0xec, 0xed, 0xee, 0xef, 0xf0, 0xf1, 0xf3, 0xf4, 0xf5, 0xf8, 0xfc, 0xfe, 0xff}
	for a := range 256 {
		against(t, string([]byte{byte(a)}))
		for b := range 256 {
			against(t, string([]byte{byte(a), byte(b)}))
		}
	}
	for _, a := range edges {
		for _, b := range edges {
			for _, c := range edges {
				against(t, string([]byte{a, b, c}))
				for _, d := range edges {
					s := string([]byte{a, b, c, d})
					l, got := Tokens("// " + s)
					if want, wantD := model("// " + s); got != wantD || !slices.Equal(l, want) {
						t.Fatalf("%q: %v, %v", s, l, got)
					}
				}
			}
		}
	}
	for _, c := range []struct {
		bytes string
		at    int // the stray byte; -1: none
	}{
		{"\xc0\x80", 0}, {"\xc1\xbf", 0}, {"\xe0\x9f\xbf", 0}, {"\xf0\x8f\xbf\xbf", 0}, {"\xed\xa0\x80", 0}, {"\xed\xbf\xbf", 0}, {"\xed\xa0\x80\xed\xb0\x80", 0}, {"\xf4\x90\x80\x80", 0},
		{"\xf5\x80\x80\x80", 0}, {"\xf8\x88\x80\x80\x80", 0}, {"\xc3", 0}, {"\xe2\x82", 0}, {"\xf0\x9f\x98", 0}, {"\x80", 0}, {"\xbf", 0}, {"\xc3\xa9\xa9", 2}, {"\xe2\x82\xac\x82", 3},
		{"\xc3(", 0}, {"\xe2\x82(", 0}, {"\xe2(\xac", 0}, {"\xc2\x80", -1}, {"\xdf\xbf", -1}, {"\xe0\xa0\x80", -1}, {"\xed\x9f\xbf", -1}, {"\xee\x80\x80", -1}, {"\xef\xbf\xbf", -1},
		{"\xef\xbf\xbd", -1}, {"\xf0\x90\x80\x80", -1}, {"\xf4\x8f\xbf\xbf", -1}, {"\xef\xbf\xbd\xbd", 3},
	} {
		for _, ahead := range []string{"", "a ", "| ", "1a ", "// ", "\u00e9", "// \u20ac", strings.Repeat("n", 70) + " "} {
			for _, behind := range []string{"", " ", "\n", " a", "\xff"} {
				at := c.at
				if at < 0 && behind == "\xff" {
					at = len(c.bytes)
				}
				if _, d := Tokens(ahead + c.bytes + behind); at >= 0 && d != (api.Diag{Code: api.ErrUtf, From: len(ahead) + at, To: len(ahead) + at + 1}) || at < 0 && d.Code == api.ErrUtf {
					t.Errorf("%q, %q, %q: %v", ahead, c.bytes, behind, d)
				}
			}
		}
	}
}

// R6: the same source tells the same.
func TestSameAgain(t *testing.T) {
	for _, s := range []string{"", "fn main() { print(1); }", "1a", "\xff", "\u00e9"} {
		a, d := Tokens(s)
		b, e := Tokens(s)
		if d != e || !slices.Equal(a, b) {
			t.Errorf("%q: %v, %v, then %v, %v", s, a, d, b, e)
		}
	}
}
