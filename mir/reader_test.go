package mir

import (
	"slices"
	"strconv"
	"strings"
	"testing"

	"patina/api"
	"patina/items"
	"patina/parse"
)

// ahead are the items that the tests' functions name, ahead of main.
const ahead = "struct S { a: i64, b: Box<i64> } struct N { } struct P { s: S, e: E, u: (), l: Box<L> } enum E { A, B(i64), C(S) } enum L { End, More(Box<L>) } enum C { X, Y(bool) } " +
	"fn f(x: i64, r: &S, b: Box<S>) -> &S { r } fn g() -> Box<i64> { Box::new(1) } "

// itemsOf are the items of a source.
func itemsOf(t *testing.T, source string) api.Items {
	t.Helper()
	x, d := parse.Parse(source)
	if d.Code != api.OK {
		t.Fatal(d, source[d.From:])
	}
	it, d := items.Of(x)
	if d.Code != api.OK {
		t.Fatal(d, source[d.From:])
	}
	return it
}

// reader reads texts of functions in the chapter's form, as the chapter tells it; it is no part of the program.
type reader struct {
	words []string
}

func (r *reader) next() string {
	w := r.words[0]
	r.words = r.words[1:]
	return w
}

func number(s string) int {
	n, err := strconv.Atoi(s)
	if err != nil {
		panic(err)
	}
	return n
}

func placeOf(s string) api.Place {
	parts := strings.Split(strings.TrimPrefix(s, "_"), ".")
	p := api.Place{Local: number(parts[0])}
	for _, step := range parts[1:] {
		switch {
		case step == "*":
			p.Path = append(p.Path, -1)
		case step[0] == '@':
			p.Path = append(p.Path, -2-number(step[1:]))
		default:
			p.Path = append(p.Path, number(step))
		}
	}
	return p
}

func (r *reader) operand() api.Operand {
	switch w := r.next(); w {
	case "copy":
		return api.Operand{Kind: api.OCopy, Place: placeOf(r.next())}
	case "move":
		return api.Operand{Kind: api.OMove, Place: placeOf(r.next())}
	case "true":
		return api.Operand{Kind: api.OTruth, Num: 1}
	case "false":
		return api.Operand{Kind: api.OTruth}
	case "()":
		return api.Operand{Kind: api.OUnit}
	default:
		n, err := strconv.ParseInt(w, 10, 64)
		if err != nil {
			panic(err)
		}
		return api.Operand{Kind: api.ONum, Num: n}
	}
}

func (r *reader) operands() []api.Operand {
	var l []api.Operand
	for len(r.words) > 0 && r.words[0] != "->" {
		l = append(l, r.operand())
	}
	return l
}

func (r *reader) rvalue() api.Rvalue {
	switch r.words[0] {
	case "neg", "not", "box":
		kind := map[string]int{"neg": api.RNeg, "not": api.RNot, "box": api.RBox}[r.next()]
		return api.Rvalue{Kind: kind, Args: r.operands()}
	case "ref", "mut", "tag":
		kind := map[string]int{"ref": api.RRef, "mut": api.RMut, "tag": api.RTag}[r.next()]
		return api.Rvalue{Kind: kind, Place: placeOf(r.next())}
	case "make":
		r.next()
		return api.Rvalue{Kind: api.RMake, Name: r.next(), Args: r.operands()}
	case "pick":
		r.next()
		return api.Rvalue{Kind: api.RPick, Name: r.next(), Variant: number(r.next()), Args: r.operands()}
	}
	first := r.operand()
	if len(r.words) == 0 {
		return api.Rvalue{Kind: api.RUse, Args: []api.Operand{first}}
	}
	op := r.next()
	return api.Rvalue{Kind: api.RBin, Op: op, Args: append([]api.Operand{first}, r.operands()...)}
}

func statementOf(line string) (api.MStmt, bool) {
	r := reader{strings.Split(line, " ")}
	switch w := r.words[0]; w {
	case "drop", "free", "live", "dead":
		kind := map[string]int{"drop": api.MDrop, "free": api.MFree, "live": api.MLive, "dead": api.MDead}[w]
		return api.MStmt{Kind: kind, Place: placeOf(r.words[1])}, true
	}
	if len(r.words) < 3 || r.words[1] != "=" || r.words[2] == "call" {
		return api.MStmt{}, false
	}
	p := placeOf(r.next())
	r.next()
	return api.MStmt{Kind: api.MSet, Place: p, R: r.rvalue()}, true
}

func endOf(line string) api.MTerm {
	r := reader{strings.Split(line, " ")}
	switch first := r.next(); first {
	case "goto":
		return api.MTerm{Kind: api.TGoto, To: []int{number(r.next())}}
	case "if":
		return api.MTerm{Kind: api.TIf, Arg: r.operand(), To: []int{number(r.next()), number(r.next())}}
	case "switch":
		t := api.MTerm{Kind: api.TSwitch, Arg: r.operand()}
		for len(r.words) > 1 {
			v, _ := strconv.ParseInt(r.next(), 10, 64)
			t.Values = append(t.Values, v)
			t.To = append(t.To, number(r.next()))
		}
		t.To = append(t.To, number(r.next()))
		return t
	case "return":
		return api.MTerm{Kind: api.TReturn}
	case "panic":
		return api.MTerm{Kind: api.TPanic, Code: number(r.next())}
	default:
		r.next()
		r.next()
		t := api.MTerm{Kind: api.TCall, Place: placeOf(first), Name: r.next(), Args: r.operands()}
		r.next()
		t.To = []int{number(r.next())}
		return t
	}
}

// functionOf is the function of a text; its last line may be left open.
func functionOf(text string) api.MFn {
	lines := strings.Split(strings.TrimSuffix(text, "\n"), "\n")
	f := api.MFn{Name: strings.TrimPrefix(lines[0], "fn ")}
	for _, line := range lines[1:] {
		k, rest, isLocal := strings.Cut(line, ": ")
		if isLocal && number(k) == len(f.Locals) {
			f.Locals = append(f.Locals, api.Local{Type: rest})
			continue
		}
		if strings.HasPrefix(line, "bb") {
			f.Blocks = append(f.Blocks, api.MBlock{})
			continue
		}
		b := &f.Blocks[len(f.Blocks)-1]
		if s, is := statementOf(line); is {
			b.Stmts = append(b.Stmts, s)
		} else {
			b.Term = endOf(line)
		}
	}
	return f
}

// program is MIR with the functions of these texts, one for each of the items' own.
func program(it api.Items, texts ...string) api.Mir {
	m := api.Mir{Items: it}
	for k, s := range texts {
		f := functionOf(s)
		f.Params = len(it.Fns[k].Params)
		m.Fns = append(m.Fns, f)
	}
	return m
}

const (
	fText = "fn f\n0: &S\n1: i64\n2: &S\n3: Box<S>\nbb0\n_0 = copy _2\ndrop _3\nreturn\n"
	gText = "fn g\n0: Box<i64>\n1: Box<i64>\nbb0\n_0 = box 1\nreturn\n"
)

// locals are those of the tests' main, behind its result: one of each form of type.
const locals = "0: ()\n1: i64\n2: bool\n3: Box<i64>\n4: S\n5: &S\n6: &mut S\n7: E\n8: &E\n9: P\n10: Box<S>\n11: N\n12: L\n13: C\n14: &mut P\n15: Box<Box<i64>>\n16: &i64\n17: &mut i64\n18: &Box<i64>\n19: &()\n20: &bool\n"

// withMain is MIR whose main has these locals and a body.
func withMain(t *testing.T, body string) api.Mir {
	t.Helper()
	return program(itemsOf(t, ahead+"fn main() { }"), fText, gText, "fn main\n"+locals+body)
}

// one is MIR whose main does one statement, and returns.
func one(t *testing.T, line string) api.Mir { return withMain(t, "bb0\n"+line+"\nreturn\n") }

// ending is MIR whose main has three blocks, the first with an end.
func ending(t *testing.T, line string) api.Mir {
	return withMain(t, "bb0\n"+line+"\nbb1\nreturn\nbb2\npanic 103\n")
}

// main is the function that tests change.
func main(m *api.Mir) *api.MFn { return &m.Fns[len(m.Fns)-1] }

// changed is MIR with another main, the rest as it is.
func changed(m api.Mir, change func(f *api.MFn)) api.Mir {
	m.Fns = slices.Clone(m.Fns)
	change(main(&m))
	return m
}
