package lex

import (
	"strconv"
	"strings"
	"unicode/utf8"

	"patina/api"
)

// strayByte is the first byte of a source that is part of no letter, if there is one.
func strayByte(source string) (int, bool) {
	for at, r := range source {
		if r != utf8.RuneError {
			continue
		}
		// the letter FFFD itself has three bytes
		if _, size := utf8.DecodeRuneInString(source[at:]); size == 1 {
			return at, true
		}
	}
	return 0, false
}

// cut are the tokens of a source that is letters throughout.
func cut(source string) ([]api.Token, api.Diag) {
	var tokens []api.Token
	done := 0 // all ahead of it is cut
letters:
	for at, r := range source {
		if at < done {
			continue letters
		}
		switch r {
		case ' ', '\t', '\n', '\r':
		case '/':
			if size := remark(source[at:]); size > 0 {
				done = at + size
				continue letters
			}
			fallthrough
		default:
			t, e := first(source[at:])
			done = at + len(t.Text)
			if e != api.OK {
				return nil, api.Diag{Code: e, From: at, To: done}
			}
			t.Text = strings.Clone(t.Text) // a piece of the source would keep all of it
			t.From, t.To = at, done
			tokens = append(tokens, t)
		}
	}
	return append(tokens, api.Token{Kind: api.TkEnd, From: len(source), To: len(source)}), api.Diag{}
}

// remark is the size of the remark that a text begins with; 0: it begins with none.
func remark(s string) int {
	if !strings.HasPrefix(s, "//") {
		return 0
	}
	if end := strings.IndexByte(s, '\n'); end >= 0 {
		return end
	}
	return len(s)
}

// first is the token that a text begins with, without its place; or an error, with what it is about as the Text.
func first(s string) (api.Token, api.Errno) {
	if size := nameSize(s); size > 0 {
		if isDigit(s[0]) {
			return number(s[:size])
		}
		return word(s[:size])
	}
	if size := signSize(s); size > 0 {
		return api.Token{Kind: api.TkSign, Text: s[:size]}, api.OK
	}
	_, size := utf8.DecodeRuneInString(s)
	return api.Token{Text: s[:size]}, api.ErrByte
}

// alone tells whether a text is one token of a kind, and nothing besides.
func alone(s string, kind int) bool {
	t, e := first(s)
	return e == api.OK && t.Kind == kind && t.Text == s
}

// number is a number of digits; s may have letters as well, which no number has.
func number(s string) (api.Token, api.Errno) {
	n, err := strconv.ParseInt(s, 10, 64)
	if err != nil {
		return api.Token{Text: s}, api.ErrNumber
	}
	return api.Token{Kind: api.TkNum, Text: s, Num: n}, api.OK
}

// word is a keyword, a name, or the one sign that is written with a name's letter.
func word(s string) (api.Token, api.Errno) {
	switch {
	case s == "_":
		return api.Token{Kind: api.TkSign, Text: s}, api.OK
	case Word(s):
		return api.Token{Kind: api.TkWord, Text: s}, api.OK
	case len(s) > api.MaxName:
		return api.Token{Text: s}, api.ErrLong
	}
	return api.Token{Kind: api.TkName, Text: s}, api.OK
}

// nameSize is how many letters and digits of names a text begins with.
func nameSize(s string) int {
	for k := range len(s) {
		if !isDigit(s[k]) && !isLetter(s[k]) {
			return k
		}
	}
	return len(s)
}

func isDigit(b byte) bool { return b >= '0' && b <= '9' }

func isLetter(b byte) bool { return b >= 'a' && b <= 'z' || b >= 'A' && b <= 'Z' || b == '_' }

// signSize is the size of the longest sign that a text begins with, but _ ; 0: it begins with none.
func signSize(s string) int {
	if len(s) == 0 {
		return 0
	}
	var behind byte
	if len(s) > 1 {
		behind = s[1]
	}
	switch s[0] {
	case '|':
		if behind == '|' {
			return 2
		}
		return 0
	case ':', '&':
		if behind == s[0] {
			return 2
		}
		return 1
	case '-':
		if behind == '>' {
			return 2
		}
		return 1
	case '=':
		if behind == '>' {
			return 2
		}
		fallthrough
	case '!', '<', '>':
		if behind == '=' {
			return 2
		}
		fallthrough
	case '(', ')', '{', '}', ',', ';', '+', '*', '/', '%', '.':
		return 1
	}
	return 0
}
