package parse

import (
	"math/rand"
	"slices"
	"strings"
	"testing"

	"patina/api"
	"patina/lex"
)

// pieces are texts of every token that the grammar knows, and of names and numbers.
var pieces = strings.Fields("fn struct enum let mut while if else match return break continue true false i64 bool Box a new S 7 :: -> => == != <= >= && || ( ) { } < > , ; : = + - * / % & ! . _")

// making makes what an entry reads.
func making(m *maker, entry, measure int) {
	switch entry {
	case 0:
		m.crate(measure)
	case 1:
		m.expr(measure, where{})
	case 2:
		m.aType(measure)
	case 3:
		m.pattern(measure)
	}
}

func wantTree(t *testing.T, source string, read func(string) (api.Tree, api.Diag), want []api.Node) {
	t.Helper()
	tree, d := read(source)
	if d != (api.Diag{}) {
		t.Fatalf("%q: %v", source, d)
	}
	if !slices.EqualFunc(tree.Nodes, want, sameNode) {
		t.Fatalf("%q tells\n%s, not\n%s", source, show(tree.Nodes, source), show(want, source))
	}
	wantRight(t, source, tree.Nodes)
}

// P9, 12.1 to 12.4: sources by the grammar have the trees that they were made for, in any layout.
func TestMadeSources(t *testing.T) {
	r := rand.New(rand.NewSource(12))
	g := theGrammar()
	kinds := map[int]int{}
	for round := range 6000 {
		m := &maker{r: r}
		making(m, round%4, r.Intn(25))
		e := entries[round%4]
		source, l := layout(m.texts, r)
		wantTree(t, source, e.read, m.tree(l))
		plain, l := layout(m.texts, nil)
		wantTree(t, plain, e.read, m.tree(l))
		for _, n := range m.nodes {
			kinds[n.Kind]++
		}
		if round < 400 { // the grammar of rows takes them too
			if l := tokensOf(t, source); g.firstWrong(g.begin(e.root), l) != -1 {
				t.Fatalf("%q is not by the rows", source)
			}
		}
	}
	for kind, name := range kindNames {
		if kinds[kind] < 20 {
			t.Errorf("%s was made %d times", name, kinds[kind])
		}
	}
}

// 12.4: round brackets about a whole expr change nothing but places, and no place of a node within.
func TestBracketsAboutExprs(t *testing.T) {
	r := rand.New(rand.NewSource(3))
	for range 1500 {
		m := &maker{r: r}
		m.expr(r.Intn(15), where{})
		source, l := layout(m.texts, r)
		want := m.tree(l)
		about := "(" + source + "\n)"
		tree, d := Expr(about)
		if d.Code != api.OK || !sameShape(tree.Nodes, want) {
			t.Fatalf("%q: %v", about, d)
		}
		for k, x := range tree.Nodes {
			if x.From != want[k].From+1 || x.To != want[k].To+1 {
				t.Fatalf("%q: %v, without brackets %v", about, x, want[k])
			}
		}
		twice, d := Expr("( (" + source + "\n) )")
		if d.Code != api.OK || !sameShape(twice.Nodes, want) {
			t.Fatalf("%q twice: %v", about, d)
		}
		body, d := Parse("fn main() { let x = (" + source + "\n); }")
		bare, e := Parse("fn main() { let x = " + source + "\n; }")
		if d.Code != api.OK || e.Code != api.OK || !sameShape(body.Nodes, bare.Nodes) {
			t.Fatalf("%q in a let: %v, %v", source, d, e)
		}
	}
}

// changed are the stages behind each beginning of a list of tokens.
func changed(g *grammar, root string, l []api.Token) [][]*stage {
	all := [][]*stage{g.begin(root)}
	for _, x := range l {
		next := g.next(all[len(all)-1], x)
		if next == nil {
			break
		}
		all = append(all, next)
	}
	return all
}

// wantAsRows holds what is told of texts to what the rows say of them; the stages are those of the tokens ahead of the change.
func wantAsRows(t *testing.T, g *grammar, stages []*stage, read func(string) (api.Tree, api.Diag), texts []string) {
	t.Helper()
	source := strings.Join(texts, " ")
	l := tokensOf(t, source)
	want := wantFirst(l, g.firstWrong(stages, l))
	tree, d := read(source)
	if d != want {
		t.Fatalf("%q tells %v, not %v", source, d, want)
	}
	wantAnswer(t, source, tree, d)
}

// 12.1, 12.2: sources that are cut short, that have one token more, one less, and one in another's place: the first token that can not stand there is told.
func TestChangedSources(t *testing.T) {
	r := rand.New(rand.NewSource(120))
	g := theGrammar()
	for round := range 140 {
		m := &maker{r: r}
		making(m, round%4, 3+r.Intn(10))
		if len(m.texts) > 60 {
			continue
		}
		e := entries[round%4]
		all := changed(g, e.root, tokensOf(t, strings.Join(m.texts, " ")))
		for k := range len(m.texts) + 1 {
			wantAsRows(t, g, all[k], e.read, m.texts[:k])
			for range 12 {
				more := slices.Insert(slices.Clone(m.texts), k, pieces[r.Intn(len(pieces))])
				wantAsRows(t, g, all[k], e.read, more)
			}
			if k == len(m.texts) {
				break
			}
			wantAsRows(t, g, all[k], e.read, slices.Delete(slices.Clone(m.texts), k, k+1))
			for range 12 {
				other := slices.Clone(m.texts)
				other[k] = pieces[r.Intn(len(pieces))]
				wantAsRows(t, g, all[k], e.read, other)
			}
		}
	}
}

// 12.1: every token behind every beginning of some sources that have each row of the grammar.
func TestEachTokenBehindEachBeginning(t *testing.T) {
	g := theGrammar()
	for n, list := range [][]string{
		{
			"fn f ( mut a : & mut i64 , b : Box < S > , ) -> & bool { }", "struct S { a : ( ) , b : i64 , } enum E { A , B ( bool ) , }",
			"fn f ( ) { let mut x : i64 = 1 ; let y = x ; while x { } return ; return 1 ; break ; continue ; x ; x = 1 ; x }",
			"fn f ( ) { if a { } else if S { } else { } ; match a { } { } - 1 ; if a { } }", "fn f ( ) { match S { _ => { } , a => 1 , - 7 => { } E :: V ( true ) => if a { } else { } . b } }",
		},
		{
			"a || b && c < d + e * - ! * & mut f . g", "( a ) . b == S { a : 1 , b : { } , } . c", "f ( 1 , true , ) - E :: V ( ( ) ) % Box :: new ( 2 )", "if if a { } else { } { } + match { a } { }",
			"if ( S { } ) == f ( S { } ) { } else { }", "match - S { a => S { } }", "E :: V",
		},
		{"& mut Box < & ( ) >", "& S", "bool"},
		{"E :: V ( E :: V ( - 7 ) )", "_", "true", "a", "7"},
	} {
		e := entries[n]
		for _, source := range list {
			texts := strings.Fields(source)
			all := changed(g, e.root, tokensOf(t, source))
			if len(all) != len(texts)+2 {
				t.Fatalf("%q is not by the rows: %d", source, len(all))
			}
			for k := range len(texts) + 1 {
				for _, p := range pieces {
					wantAsRows(t, g, all[k], e.read, append(texts[:k:k], p))
					wantAsRows(t, g, all[k], e.read, slices.Insert(slices.Clone(texts), k, p))
				}
			}
		}
	}
}

// P1, 12.3: rows of any tokens, any bytes.
func TestAnySources(t *testing.T) {
	r := rand.New(rand.NewSource(1))
	g := theGrammar()
	for range 4000 {
		var texts []string
		for range r.Intn(12) {
			texts = append(texts, pieces[r.Intn(len(pieces))])
		}
		for _, e := range entries {
			wantAsRows(t, g, g.begin(e.root), e.read, texts)
		}
		wantAsRows(t, g, g.begin("crate"), Parse, append([]string{"fn", "f", "(", ")", "{"}, texts...))
	}
	for range 6000 {
		b := make([]byte, r.Intn(20))
		for k := range b {
			b[k] = byte(r.Intn(256))
			if r.Intn(8) > 0 {
				b[k] = "(){}<>,;:=+-*/%&!._ax17 \n"[r.Intn(25)]
			}
		}
		for _, e := range entries {
			source := string(b)
			tree, d := e.read(source)
			wantAnswer(t, source, tree, d)
			if _, first := lex.Tokens(source); first.Code != api.OK && d != first {
				t.Fatalf("%q: %v, not %v", source, d, first)
			}
		}
	}
}

// 12.1: sources with deep things: the first that is too deep is told, unless another error comes ahead of it.
func TestDeepSources(t *testing.T) {
	r := rand.New(rand.NewSource(121))
	g := theGrammar()
	deep, shallow := 0, 0
	for round := range 600 {
		m := &maker{r: r, narrow: true}
		making(m, round%4, 40+r.Intn(80))
		e := entries[round%4]
		source, l := layout(m.texts, r)
		at := m.tooDeep()
		if at < 0 {
			shallow++
			wantTree(t, source, e.read, m.tree(l))
			continue
		}
		deep++
		want := api.Diag{Code: api.ErrDeep, From: l[at].From, To: l[at].To}
		if tree, d := e.read(source); d != want || len(tree.Nodes) != 0 {
			t.Fatalf("%q tells %v, not %v", source, d, want)
		}
		for _, k := range []int{r.Intn(at + 1), at, min(at+1, len(m.texts))} { // cut there, or with something that can not stand there
			for _, texts := range [][]string{m.texts[:k], append(slices.Clone(m.texts[:k]), "=>", "=>"), slices.Concat(m.texts[:k], []string{"else"}, m.texts[k:])} {
				source, l := layout(texts, nil)
				tokens := tokensOf(t, source)
				first := g.firstWrong(g.begin(e.root), tokens)
				want := wantFirst(tokens, first)
				if at < k {
					want = api.Diag{Code: api.ErrDeep, From: l[at].From, To: l[at].To}
				} else if first != k {
					continue // it can stand there after all
				}
				if _, d := e.read(source); d != want {
					t.Fatalf("%q tells %v, not %v", source, d, want)
				}
			}
		}
	}
	if deep < 100 || shallow < 100 {
		t.Errorf("%d sources were too deep, %d were not", deep, shallow)
	}
}
