package parse

import (
	"strings"
	"testing"

	"patina/api"
	"patina/lex"
)

// rows are the chapter's grammar, with its three rules written out: @ is what an expression may not begin with, or that it is a cond's; ~ is what is left of that behind its first token.
const rows = `
crate = { item } END
exprEND = expr END
typeEND = type END
patternEND = pattern END
item = function | struct | enum
function = 'fn' NAME '(' [ param { ',' param } [ ',' ] ] ')' [ '->' type ] block
param = [ 'mut' ] NAME ':' type
struct = 'struct' NAME '{' [ field { ',' field } [ ',' ] ] '}'
field = NAME ':' type
enum = 'enum' NAME '{' [ variant { ',' variant } [ ',' ] ] '}'
variant = NAME [ '(' type ')' ]
type = 'i64' | 'bool' | '(' ')' | NAME | '&' [ 'mut' ] type | 'Box' '<' type '>'
block = '{' { stmt } [ expr.stmt | blocky ] '}'
stmt = 'let' [ 'mut' ] NAME [ ':' type ] '=' expr ';' | 'while' expr.cond block | 'return' [ expr ] ';' | 'break' ';' | 'continue' ';' | expr.stmt ';' | expr.stmt '=' expr ';' | blocky [ ';' ]
blocky = if | match | block
expr@ = and@ { '||' and~ }
and@ = cmp@ { '&&' cmp~ }
cmp@ = sum@ [ ( '<' | '<=' | '>' | '>=' | '==' | '!=' ) sum~ ]
sum@ = product@ { ( '+' | '-' ) product~ }
product@ = prefix@ { ( '*' | '/' | '%' ) prefix~ }
prefix@ = '-' prefix~ | '!' prefix~ | '*' prefix~ | '&' [ 'mut' ] prefix~ | postfix@
postfix@ = primary@ { '.' NAME }
primary = plain | make | blocky
primary.cond = plain | blocky
primary.stmt = plain | make
primary.arm = plain | make | if | match
plain = NUM | 'true' | 'false' | '(' ')' | '(' expr ')' | NAME | NAME '(' [ expr { ',' expr } [ ',' ] ] ')' | NAME '::' NAME [ '(' expr ')' ] | 'Box' '::' 'new' '(' expr ')'
make = NAME '{' [ init { ',' init } [ ',' ] ] '}'
init = NAME ':' expr
if = 'if' expr.cond block [ 'else' ( if | block ) ]
match = 'match' expr.cond '{' { pattern '=>' ( block [ ',' ] | expr.arm ',' ) } [ pattern '=>' expr.arm ] '}'
pattern = '_' | NAME | [ '-' ] NUM | 'true' | 'false' | NAME '::' NAME [ '(' pattern ')' ]
`

// grammar are rules of single symbols: each left side's right sides.
type grammar struct {
	rules map[string][][]string
	empty map[string]bool // what may be no token
}

// theGrammar is the one of rows.
func theGrammar() *grammar {
	g := &grammar{rules: map[string][][]string{}, empty: map[string]bool{}}
	for _, line := range strings.Split(strings.TrimSpace(rows), "\n") {
		variants := []string{""}
		if strings.Contains(line, "@") {
			variants = []string{"", ".cond", ".stmt", ".arm"}
		}
		for _, v := range variants {
			rest := ""
			if v == ".cond" {
				rest = v
			}
			f := strings.Fields(strings.NewReplacer("@", v, "~", rest).Replace(line))
			if left := g.choice(f[0], f[2:]); len(left) != 0 {
				panic(line)
			}
		}
	}
	for again := true; again; {
		again = false
		for left, l := range g.rules {
			for _, right := range l {
				all := true
				for _, s := range right {
					all = all && g.empty[s]
				}
				if all && !g.empty[left] {
					g.empty[left], again = true, true
				}
			}
		}
	}
	return g
}

// choice reads a row's right side, as far as a closing sign, and tells what is behind it.
func (g *grammar) choice(left string, f []string) []string {
	var right []string
	for len(f) > 0 {
		s := f[0]
		f = f[1:]
		switch s {
		case "|":
			g.rules[left] = append(g.rules[left], right)
			right = nil
		case ")", "]", "}":
			g.rules[left] = append(g.rules[left], right)
			return f
		case "(", "[", "{":
			part := left + s + string(rune('0'+len(f)))
			for g.rules[part] != nil {
				part += "'"
			}
			f = g.choice(part, f)
			switch s {
			case "[":
				g.rules[part] = append(g.rules[part], nil)
			case "{": // none, or some and one more
				for k, r := range g.rules[part] {
					g.rules[part][k] = append([]string{part}, r...)
				}
				g.rules[part] = append(g.rules[part], nil)
			}
			right = append(right, part)
		default:
			right = append(right, s)
		}
	}
	g.rules[left] = append(g.rules[left], right)
	return nil
}

// state is a rule that was gone through as far as a dot, from a token on.
type state struct {
	left      string
	rule, dot int
	from      int
}

// stage are the states behind some tokens.
type stage struct {
	list    []state
	seen    map[state]bool
	waiting map[string][]state // by the symbol behind the dot
}

func newStage() *stage { return &stage{seen: map[state]bool{}, waiting: map[string][]state{}} }

func (s *stage) add(x state) {
	if !s.seen[x] {
		s.seen[x] = true
		s.list = append(s.list, x)
	}
}

func (g *grammar) behind(x state) string {
	if r := g.rules[x.left][x.rule]; x.dot < len(r) {
		return r[x.dot]
	}
	return ""
}

func step(x state) state {
	x.dot++
	return x
}

// grow brings a stage to all states that its first ones ask for.
func (g *grammar) grow(stages []*stage) {
	here := len(stages) - 1
	s := stages[here]
	for k := 0; k < len(s.list); k++ {
		x := s.list[k]
		sym := g.behind(x)
		if sym == "" {
			for _, y := range stages[x.from].waiting[x.left] {
				s.add(step(y))
			}
			continue
		}
		s.waiting[sym] = append(s.waiting[sym], x)
		for n := range g.rules[sym] {
			s.add(state{left: sym, rule: n, from: here})
		}
		if g.empty[sym] {
			s.add(step(x))
		}
	}
}

func (g *grammar) begin(root string) []*stage {
	s := newStage()
	for n := range g.rules[root] {
		s.add(state{left: root, rule: n})
	}
	stages := []*stage{s}
	g.grow(stages)
	return stages
}

// next are the stages with one token more; nil: no source by the grammar begins so.
func (g *grammar) next(stages []*stage, t api.Token) []*stage {
	s := newStage()
	last := stages[len(stages)-1]
	symbols := []string{"'" + t.Text + "'"}
	switch t.Kind {
	case api.TkName:
		symbols = append(symbols, "NAME")
	case api.TkNum:
		symbols = append(symbols, "NUM")
	case api.TkEnd:
		symbols = []string{"END"}
	}
	for _, sym := range symbols {
		for _, x := range last.waiting[sym] {
			s.add(step(x))
		}
	}
	if len(s.list) == 0 {
		return nil
	}
	stages = append(stages[:len(stages):len(stages)], s)
	g.grow(stages)
	return stages
}

// firstWrong is the first token that no source by the grammar has there, behind what the stages were told; -1: there is none.
func (g *grammar) firstWrong(stages []*stage, l []api.Token) int {
	for k := len(stages) - 1; k < len(l); k++ {
		if stages = g.next(stages, l[k]); stages == nil {
			return k
		}
	}
	return -1
}

// tokensOf are a source's tokens, which must be right.
func tokensOf(t *testing.T, source string) []api.Token {
	t.Helper()
	l, d := lex.Tokens(source)
	if d.Code != api.OK {
		t.Fatalf("%q: %v", source, d)
	}
	return l
}

// wantFirst is what is to be told of tokens whose first wrong one is that; -1: nothing.
func wantFirst(l []api.Token, wrong int) api.Diag {
	if wrong < 0 {
		return api.Diag{}
	}
	return api.Diag{Code: api.ErrExpect, From: l[wrong].From, To: l[wrong].To}
}

// entries are the exported functions, and the row that each reads.
var entries = []struct {
	root string
	read func(string) (api.Tree, api.Diag)
}{{"crate", Parse}, {"exprEND", Expr}, {"typeEND", Type}, {"patternEND", Pattern}}
