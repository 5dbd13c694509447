package lir

import (
	"strconv"
	"strings"

	"patina/api"
)

// The fields of instructions, as forms has them.
const (
	fieldD    = "D"
	fieldA    = "A"
	fieldB    = "B"
	fieldN    = "N"
	fieldName = "S"
	fieldArgs = "R"
	fieldTo   = "T"
	fieldElse = "E"
)

// form is an operation's word, and its fields in the order in which its text has them.
type form struct{ word, fields string }

var forms = [...]form{
	api.LConst: {"const", fieldD + fieldN},
	api.LMove:  {"move", fieldD + fieldA},
	api.LBin:   {"bin", fieldD + fieldName + fieldA + fieldB},
	api.LLoad:  {"load", fieldD + fieldA + fieldN},
	api.LStore: {"store", fieldA + fieldN + fieldB},
	api.LFrame: {"frame", fieldD + fieldN},
	api.LCall:  {"call", fieldD + fieldName + fieldArgs},
	api.LJump:  {"jump", fieldTo},
	api.LIf:    {"if", fieldA + fieldTo + fieldElse},
	api.LRet:   {"ret", fieldA},
	api.LTrap:  {"trap", fieldN},
}

// text is the text of a program that is right.
func text(l []api.LFn) string {
	var b strings.Builder
	for _, f := range l {
		line(&b, "fn", f.Name, number(f.Params), number(f.Regs), number(f.Frame))
		for k, block := range f.Blocks {
			line(&b, "block", number(k))
			for _, i := range block.Ins {
				line(&b, words(i)...)
			}
		}
	}
	return b.String()
}

// line writes a line of words.
func line(b *strings.Builder, l ...string) {
	b.WriteString(strings.Join(l, " "))
	b.WriteByte('\n')
}

// words are those of an instruction's line.
func words(i api.LIns) []string {
	form := forms[i.Op]
	l := []string{"\t" + form.word}
	for k := range len(form.fields) {
		switch form.fields[k : k+1] {
		case fieldD:
			l = append(l, number(i.D))
		case fieldA:
			l = append(l, number(i.A))
		case fieldB:
			l = append(l, number(i.B))
		case fieldN:
			l = append(l, strconv.FormatInt(i.N, 10))
		case fieldName:
			l = append(l, i.Name)
		case fieldArgs:
			for _, r := range i.Args {
				l = append(l, number(r))
			}
		case fieldTo:
			l = append(l, number(i.To))
		case fieldElse:
			l = append(l, number(i.Else))
		}
	}
	return l
}

func number(n int) string { return strconv.Itoa(n) }
