package desk

import (
	"strconv"
	"strings"
	"unicode/utf8"

	"patina/api"
	"patina/lex"
)

// told is a word and numbers as a line.
func told(word string, numbers ...int) string {
	var s strings.Builder
	s.WriteString(word)
	for _, n := range numbers {
		s.WriteString(" " + strconv.Itoa(n))
	}
	return s.String()
}

// wrong is a diagnostic of the source as a line. Where that is no text, it has no lines.
func (d *desk) wrong(x api.Diag) string {
	line, column := 1, x.From+1
	if utf8.ValidString(d.source) {
		line, column, _ = lex.Place(d.source, x.From)
	}
	return told("wrong", int(x.Code), x.From, x.To, line, column)
}

// failure is an error as a line.
func failure(e api.Errno) string {
	if e == api.ErrNone {
		return "none"
	}
	return e.Error()
}

// ending is how a run ended.
func ending(o api.Outcome) string {
	switch o.End {
	case api.EndDone:
		return told("done", o.Code)
	case api.EndFuel:
		return "fuel"
	}
	return "undefined"
}

// printed are the lines that a run printed, as words.
func printed(o api.Outcome) string {
	var s strings.Builder
	for _, word := range strings.Fields(string(o.Out)) {
		s.WriteString(" " + word)
	}
	return s.String()
}
