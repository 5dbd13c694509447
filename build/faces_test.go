package build

import (
	"math"
	"math/rand"
	"slices"
	"strings"
	"testing"

	"patina/api"
	"patina/check"
	"patina/mir"
	"patina/sourcetest"
	"patina/types"
)

// nodeOf is the first node of a source's tree at which a text stands.
func nodeOf(t *testing.T, u api.Typed, source, text string) int {
	t.Helper()
	for n, x := range u.Tree.Nodes {
		if source[x.From:x.To] == text {
			return n
		}
	}
	t.Fatal("no node", text)
	return 0
}

// 20.2: Place of each kind of place, and of what is none.
func TestPlace(t *testing.T) {
	source := "fn f(a: i64, mut p: P, r: &P, b: Box<Box<D>>, m: &mut Box<i64>) -> i64 { let x = a; p.s.a = x; p.s = S { a: 1, b: Box::new(2) }; *p.s.b = 3; r.d; b.y; (*b).x; **m = 4; **b; (&p).d.x; (*g(r)).s; g(r).d; *g(r); ({ r }).d; &p.d; { p }; match p.s { q => *q.b } } fn g(r: &P) -> &P { r }" + behindAll
	u := typedOf(t, source)
	for text, want := range map[string]api.Place{
		"a": {Local: 1}, "x": {Local: 6}, "p.s.a": {Local: 2, Path: []int{1, 0}}, "p.s": {Local: 2, Path: []int{1}}, "*p.s.b": {Local: 2, Path: []int{1, 1, -1}}, "p.s.b": {Local: 2, Path: []int{1, 1}},
		"r.d": {Local: 3, Path: []int{-1, 0}}, "b.y": {Local: 4, Path: []int{-1, -1, 1}}, "(*b).x": {Local: 4, Path: []int{-1, -1, 0}}, "**m": {Local: 5, Path: []int{-1, -1}}, "*m": {Local: 5, Path: []int{-1}}, "**b": {Local: 4, Path: []int{-1, -1}}, "p.d": {Local: 2, Path: []int{0}}, "*q.b": {Local: 7, Path: []int{1, -1}},
	} {
		if p, e := Place(u, nodeOf(t, u, source, text)); !alike(p, want) || e != api.OK {
			t.Errorf("%s: %v %v", text, p, e)
		}
	}
	for _, text := range []string{
		"(&p).d.x", "(&p).d", "&p", "(*g(r)).s", "*g(r)", "g(r).d", "g(r)", "({ r }).d", "{ r }", "&p.d", "1", "p.s.a = x", "let x = a", "a: i64", "i64", "&P", "S { a: 1, b: Box::new(2) }", "b: Box::new(2)", "Box::new(2)", "q => *q.b", "q", "match p.s { q => *q.b }", "struct D { x: i64, y: bool }", "x: i64", "A", source,
	} {
		if p, e := Place(u, nodeOf(t, u, source, text)); !alike(p, api.Place{}) || e != api.ErrArg {
			t.Errorf("%.20s: %v %v", text, p, e)
		}
	}
	if p, e := Place(u, u.Items.Fns[0].Node); !alike(p, api.Place{}) || e != api.ErrArg {
		t.Error(p, e)
	}
}

// 20.2: a place that is longer than MIR's may be is told.
func TestLongPlace(t *testing.T) {
	for _, n := range []int{MaxPath, MaxPath + 1, 90} {
		star := strings.Repeat("*", n)
		source := "fn f(b: " + boxes(n) + ") -> i64 { " + star + "b } fn main() { }"
		u := typedOf(t, source)
		if p, e := Place(u, nodeOf(t, u, source, star+"b")); p.Local != 1 || len(p.Path) != n || slices.ContainsFunc(p.Path, func(k int) bool { return k != -1 }) || e != api.OK {
			t.Error(n, p, e)
		}
	}
}

// 20.2: Locals of each function, and of none.
func TestLocals(t *testing.T) {
	u := typedOf(t, "fn f(a: i64, mut b: Box<S>) -> &S { let mut c = a; match E::A { E::B(d) => { let c = true; } e => { } } panic() } fn none() { 1; 2; }"+behindAll)
	for f, want := range [][]api.Local{
		{{Type: "&S"}, {Name: "a", Type: "i64"}, {Name: "b", Type: "Box<S>", Mut: true}, {Name: "c", Type: "i64", Mut: true}, {Name: "d", Type: "i64"}, {Name: "c", Type: "bool"}, {Name: "e", Type: "E"}},
		{{Type: "()"}}, {{Type: "()"}},
	} {
		l, e := Locals(u, f)
		if !slices.Equal(l, want) || e != api.OK {
			t.Error(f, l, e)
		}
		m, _ := Of(u)
		if !slices.Equal(m.Fns[f].Locals[:len(want)], want) {
			t.Error(f, m.Fns[f].Locals)
		}
		for _, temporary := range m.Fns[f].Locals[len(want):] {
			if temporary.Name != "" || temporary.Mut {
				t.Error(f, temporary)
			}
		}
	}
}

// R1, R4: the order of errors, with zeros beside them.
func TestErrors(t *testing.T) {
	good := typedOf(t, "fn f(x: i64) -> i64 { x } fn main() { }")
	bad := typedOf(t, "fn f(x: i64) -> i64 { x } fn main() { }")
	bad.Types[nodeOf(t, bad, "fn f(x: i64) -> i64 { x } fn main() { }", "x")] = "bool"
	for _, k := range []int{-1, math.MinInt, math.MaxInt, len(good.Tree.Nodes)} {
		p, e := Place(good, k)
		l, g := Locals(good, k)
		if !alike(p, api.Place{}) || e != api.ErrNone || len(l) > 0 || g != api.ErrNone {
			t.Error(k, p, e, l, g)
		}
	}
	for _, u := range []api.Typed{bad, {}} {
		for _, k := range []int{-1, 0, 1, 2, math.MaxInt} {
			p, e := Place(u, k)
			l, g := Locals(u, k)
			m, d := Of(u)
			if !alike(p, api.Place{}) || e != api.ErrTyped || len(l) > 0 || g != api.ErrTyped || !alike(m, api.Mir{}) || d != (api.Diag{Code: api.ErrTyped}) {
				t.Error(k, p, e, l, g, m, d)
			}
		}
	}
	if l, e := Locals(good, 2); len(l) > 0 || e != api.ErrNone {
		t.Error(l, e)
	}
}

// 20.1, 20.2: in made sources Place tells the place that MIR's own rules have of it, and of the type that the tree has.
func TestMadePlaces(t *testing.T) {
	r := rand.New(rand.NewSource(202))
	places, none := 0, 0
	for range 12 {
		m := &sourcetest.Maker{Choose: r.Intn}
		u := typedOf(t, m.Source(2))
		x, d := Of(u)
		for range 60 {
			n := r.Intn(len(u.Tree.Nodes))
			p, e := Place(u, n)
			if is, _ := check.Place(u, n); !is && e != api.ErrArg {
				t.Fatal(n, p, e)
			}
			if e != api.OK {
				none++
				continue
			}
			f, _ := check.Function(u, n)
			s, _ := types.At(u.Items, x.Fns[f].Locals[p.Local].Type, p.Path)
			if s != u.Types[n] || d.Code != api.OK {
				t.Fatal(n, p, s, u.Types[n])
			}
			places++
		}
	}
	if places < 50 || none < 50 {
		t.Error(places, none)
	}
}

// P1: trees that are not right.
func TestArbitrary(t *testing.T) {
	r := rand.New(rand.NewSource(201))
	texts := []string{"", "!", "&", "bool", "i64", "E", "&&E", "E::B", "x"}
	for range 200 {
		m := &sourcetest.Maker{Choose: r.Intn}
		u := typedOf(t, m.Source(1))
		n := r.Intn(len(u.Tree.Nodes))
		x := &u.Tree.Nodes[n]
		switch r.Intn(9) {
		case 0:
			x.Kind = r.Intn(60) - 2
		case 1:
			x.Kids = []int{r.Intn(80) - 5, r.Intn(80) - 5}[:r.Intn(3)]
		case 2:
			x.Name = texts[r.Intn(len(texts))]
		case 3:
			x.Num = r.Int63() - r.Int63()
		case 4:
			u.Types[n] = texts[r.Intn(len(texts))]
		case 5:
			u.Vars[n] = r.Intn(300) - 20
		case 6:
			u.Locals = u.Locals[:r.Intn(len(u.Locals))]
		case 7:
			u.Items.Fns[0].Node = r.Intn(1000) - 100
		case 8:
			x.From, x.To = x.From-r.Intn(2)*50, x.To-r.Intn(50)
		}
		want := check.Check(u)
		y, d := Of(u)
		_, e := Place(u, r.Intn(len(u.Tree.Nodes)+4)-2)
		_, g := Locals(u, r.Intn(12)-2)
		if want != api.OK && (d.Code != want || e != want || g != want) || want == api.OK && (d.Code != api.OK || mir.Check(y) != api.OK) {
			t.Fatal(want, d, e, g)
		}
	}
}

// 20.1: places in the source are a tree's own, whatever they are.
func TestTreeWithoutPlaces(t *testing.T) {
	u := typedOf(t, "fn main() { let b = Box::new(1); if true { return; } }")
	for k := range u.Tree.Nodes {
		u.Tree.Nodes[k].From, u.Tree.Nodes[k].To = 0, 0
	}
	m, d := Of(u)
	if d != (api.Diag{}) || mir.Check(m) != api.OK {
		t.Fatal(d)
	}
	for _, s := range spansOf(m.Fns[0]) {
		if s != (span{}) && s != (span{-1, 0}) {
			t.Error(s)
		}
	}
}
