package mirtest

import (
	"slices"
	"strconv"
	"strings"

	"patina/api"
	"patina/items"
	"patina/parse"
)

// Bench is what MIR has beside the function that a test looks at.
type Bench struct {
	Types   string      // as a source has them
	Helpers [][2]string // other functions: their heads, as a source has them, and their text behind their parameters, as a row
}

// Items are items whose first function has a head, as a source has it; false: they are not right.
func (b Bench) Items(head string) (api.Items, bool) {
	source := b.Types + " fn " + head + " { panic() } "
	for _, h := range b.Helpers {
		source += "fn " + h[0] + " { panic() } "
	}
	tree, _ := parse.Parse(source)
	it, d := items.Of(tree)
	return it, d.Code == api.OK
}

// Program is MIR of such items, whose first function has a text behind its parameters; its statements and ends are numbered.
func (b Bench) Program(it api.Items, text string) (api.Mir, bool) {
	texts := []string{Head(it.Fns[0]) + text}
	for k, h := range b.Helpers {
		texts = append(texts, Head(it.Fns[k+1])+Lines(h[1]))
	}
	m, right := Program(it, texts...)
	Number(m)
	return m, right
}

// Head is a function's text up to its parameters.
func Head(f api.Fn) string {
	s := "fn " + f.Name + "\n0: " + f.Ret + "\n"
	for k, p := range f.Params {
		s += strconv.Itoa(k+1) + ": " + p.Type + "\n"
	}
	return s
}

// Lines are the lines of a row, which stand there with a semicolon and a blank between.
func Lines(row string) string { return strings.ReplaceAll(row, "; ", "\n") + "\n" }

// Blocks are the blocks of a row, and the number of its statement or end that is marked with ! or ? ahead; -1: none is. Behind a call without a block, as print A is too, a new block begins; the last block returns, if it has no end.
func Blocks(row string) (string, int) {
	s, blocks, open, count, marked := "bb0\n", 1, true, 0, -1
	for _, line := range strings.Split(row, "; ") {
		if line != strings.TrimLeft(line, "!?") {
			line, marked = line[1:], count
		}
		if arg, is := strings.CutPrefix(line, "print "); is {
			line = "_0 = call print " + arg
		}
		word, _, _ := strings.Cut(line, " ")
		switch open = true; {
		case strings.Contains(line, " = call ") && !strings.Contains(line, "->"):
			line += " -> " + strconv.Itoa(blocks) + "\nbb"
			blocks++
		case strings.HasPrefix(line, "bb"):
			blocks++
			count--
		case slices.Contains([]string{"return", "panic", "goto", "if", "switch"}, word) || strings.Contains(line, "->"):
			open = false
		}
		count++
		s += line + "\n"
	}
	if open {
		s += "return\n"
	}
	return s, marked
}

// PlaceText is a place as mir.Text writes it.
func PlaceText(p api.Place) string {
	s := "_" + strconv.Itoa(p.Local)
	for _, k := range p.Path {
		switch {
		case k >= 0:
			s += "." + strconv.Itoa(k)
		case k == -1:
			s += ".*"
		default:
			s += ".@" + strconv.Itoa(-2-k)
		}
	}
	return s
}

// PlaceTexts are places, with a blank between.
func PlaceTexts(l []api.Place) string {
	var texts []string
	for _, p := range l {
		texts = append(texts, PlaceText(p))
	}
	return strings.Join(texts, " ")
}
