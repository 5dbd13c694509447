package desk

import (
	"math"
	"slices"
	"strconv"
	"strings"

	"patina/lex"
)

// Kinds of words.
const (
	noWord   = iota
	numberN  // from 0 to mostN
	numberZ  // any but the least
	nameWord // a name
)

// mostN is the greatest number of the kind N.
const mostN = 1000000

// sourceWord is the command that source lines belong to.
const sourceWord = "source"

// command is a line of a script that is one, with its source lines.
type command struct {
	row
	name    string
	numbers []int64 // its words that are some
	source  []string
}

// linesOf are a script's lines, without their ends.
func linesOf(script string) []string {
	lines := strings.Split(script, "\n")
	if last := len(lines) - 1; lines[last] == "" {
		return lines[:last]
	}
	return lines
}

// commandsOf are the commands of lines; or the number of the first line that is wrong.
func commandsOf(lines []string) ([]command, int) {
	var l []command
	rows := rowsByWord()
	open := false // the line ahead is a source's
	for k, line := range lines {
		if text, isSource := strings.CutPrefix(line, "|"); isSource && open {
			last := &l[len(l)-1]
			last.source = append(last.source, text)
			continue
		}
		open = false
		if line == "" || line[0] == '#' {
			continue
		}
		words := wordsOf(line)
		c, ok := commandOf(rows, words)
		if !ok {
			return nil, k + 1
		}
		l = append(l, c)
		open = words[0] == sourceWord
	}
	return l, 0
}

// wordsOf are what stands between a line's blanks.
func wordsOf(line string) []string {
	return slices.DeleteFunc(strings.Split(line, " "), func(s string) bool { return s == "" })
}

// commandOf is the command of a line's words; false: they are none.
func commandOf(rows map[string]row, words []string) (command, bool) {
	if len(words) == 0 {
		return command{}, false
	}
	r, there := rows[words[0]]
	words = words[1:]
	if !there || len(words) < len(r.kinds) {
		return command{}, false
	}
	c := command{row: r}
	for k, w := range words {
		kind := r.more
		if k < len(r.kinds) {
			kind = r.kinds[k]
		}
		if !c.take(w, kind) {
			return command{}, false
		}
	}
	return c, true
}

// take takes a word, if it is of a kind.
func (c *command) take(word string, kind int) bool {
	if kind == nameWord {
		c.name = word
		return lex.Name(word)
	}
	n, ok := number(word)
	c.numbers = append(c.numbers, n)
	return ok && (kind == numberZ || kind == numberN && n >= 0 && n <= mostN)
}

// number is the number that a word is, in the form in which numbers are told; the least one is none.
func number(word string) (int64, bool) {
	n, err := strconv.ParseInt(word, 10, 64)
	return n, err == nil && n > math.MinInt64 && strconv.FormatInt(n, 10) == word
}
