package desk

import (
	"math/rand"
	"strconv"
	"strings"
	"testing"

	"patina/api"
	"patina/build"
	"patina/check"
	"patina/cover"
	"patina/driver"
	"patina/drops"
	"patina/eval"
	"patina/lex"
	"patina/loans"
	"patina/mir"
	"patina/moves"
	"patina/parse"
	"patina/sourcetest"
	"patina/tree"
)

// layers are what the layers make of a source, as far as nothing is wrong with it, and what is wrong for those that are asked for then.
type layers struct {
	source           string
	tree             api.Tree
	typed            api.Typed
	built, made      api.Mir
	parsed, checked  api.Diag
	covered, moved   api.Diag
	definite, fronts api.Diag
}

func layersOf(source string) layers {
	l := layers{source: source}
	l.tree, l.parsed = parse.Parse(source)
	l.checked = l.parsed
	if l.checked.Code == api.OK {
		l.typed, l.checked = check.Of(l.tree)
	}
	l.covered = l.checked
	if l.covered.Code == api.OK {
		l.covered, _ = cover.Check(l.typed)
	}
	if l.covered.Code == api.OK {
		l.built, l.covered = build.Of(l.typed)
	}
	l.moved = l.covered
	if l.moved.Code == api.OK {
		l.moved = moves.Check(l.built)
	}
	l.definite = l.moved
	if l.definite.Code == api.OK {
		l.made, l.definite.Code = drops.Make(l.built)
		if l.definite.Code != api.OK {
			l.definite.To = len(source)
		}
	}
	_, l.fronts = driver.Front(source)
	return l
}

// line is what is told: what was asked for, or what is wrong.
func (l layers) line(d api.Diag, what func() string) string {
	if d.Code == api.OK {
		return what() + "\n"
	}
	line, column, _ := lex.Place(l.source, d.From)
	return join("wrong", int(d.Code), d.From, d.To, line, column) + "\n"
}

func join(word string, numbers ...int) string {
	for _, n := range numbers {
		word += " " + strconv.Itoa(n)
	}
	return word
}

// function is what is told of one, or that there is none.
func (l layers) function(d api.Diag, it api.Items, name string, what func(f int) string) string {
	return l.line(d, func() string {
		for k, f := range it.Fns {
			if f.Name == name {
				return what(k)
			}
		}
		return "none"
	})
}

func (l layers) want(name string, fuel int) string {
	var s strings.Builder
	s.WriteString(l.line(l.parsed, func() string { text, _ := tree.Print(l.tree); return text }))
	s.WriteString(l.line(l.fronts, func() string { return "fine" }))
	s.WriteString(l.line(l.checked, func() string {
		n, m := 0, 0
		for k := range l.typed.Types {
			if len(l.typed.Types[k]) > 0 {
				n++
			}
		}
		for _, x := range l.typed.Locals {
			m += len(x)
		}
		return join("types", n, m)
	}))
	s.WriteString(l.function(l.covered, l.built.Items, name, func(f int) string {
		text, _ := mir.Text(l.built, f)
		return strings.TrimSuffix(strings.ReplaceAll(text, "\n", " ; "), " ; ")
	}))
	s.WriteString(l.function(l.moved, l.built.Items, name, func(f int) string {
		blocks := l.built.Fns[f].Blocks
		gone, _ := moves.Maybe(l.built, f, len(blocks)-1, len(blocks[len(blocks)-1].Stmts))
		return join("moves", len(gone))
	}))
	s.WriteString(l.function(l.definite, l.made.Items, name, func(f int) string {
		x, _ := loans.Facts(l.made, f)
		return join("loans", len(x.Issued), len(x.Edges), len(x.Subsets), len(x.Killed), len(x.Live), len(x.Against))
	}))
	s.WriteString(l.function(l.checked, l.typed.Items, name, func(f int) string {
		n, o, e := eval.Call(l.typed, f, []int64{5}, nil, fuel)
		if e != api.OK {
			return join("error", int(e))
		}
		word := map[int]string{api.EndDone: join("call done", o.Code), api.EndFuel: "call fuel", api.EndUndef: "call undefined"}[o.End]
		return strings.TrimSpace(join(word, int(n)) + " " + strings.ReplaceAll(string(o.Out), "\n", " "))
	}))
	return s.String()
}

// 28.1: what commands tell is what the layers tell, of sources that are made by chance, taken or not.
func TestLayers(t *testing.T) {
	r := rand.New(rand.NewSource(282))
	told := map[string]int{}
	for k := range 500 {
		source := (&sourcetest.Maker{Choose: r.Intn, Plain: k%2 == 0}).Source(r.Intn(3))
		if at := r.Intn(len(source)); r.Intn(10) == 0 {
			source = source[:at] + "; " + source[at:]
		}
		source = strings.ReplaceAll(source, "; ", "; \n") + "\n"
		name := []string{"f", "g", "h", "u", "main", "zz"}[r.Intn(6)]
		fuel := 1 + r.Intn(300)
		s := script(strings.TrimSuffix(source, "\n"), "print", "check", "types", "mir "+name, "moves "+name, "loans "+name, "call "+name+" "+strconv.Itoa(fuel)+" 5")
		want := "ok\n" + layersOf(source).want(name, fuel)
		got, at, e := Run(s)
		if got != want || at != 0 || e != api.OK {
			t.Fatalf("%q %d %v, not %q\n%s", got, at, e, want, s)
		}
		for line := range strings.SplitSeq(got, "\n") {
			told[strings.Join(strings.Fields(line + " - -")[:2], " ")]++
			told[strings.Fields(line + " -")[0]]++
		}
	}
	for _, word := range []string{"wrong", "wrong 120", "wrong 171", "wrong 221", "fine -", "types", "moves", "loans", "call done", "call fuel", "none -", "error 1", "fn f"} {
		if told[word] < 5 {
			t.Error("seldom:", word, told[word])
		}
	}
}
