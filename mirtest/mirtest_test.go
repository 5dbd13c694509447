package mirtest

import (
	"math/rand"
	"slices"
	"strings"
	"testing"

	"patina/api"
	"patina/mir"
)

func makers(r *rand.Rand) []*Maker {
	return []*Maker{{Choose: r.Intn}, {Choose: r.Intn, Plain: true}, {Choose: r.Intn, Copied: true}, {Choose: r.Intn, Copied: true, Onward: true}}
}

// What is made is right, and its text is read as it was written.
func TestMade(t *testing.T) {
	r := rand.New(rand.NewSource(1))
	for range 100 {
		for _, m := range makers(r) {
			x := m.Program()
			if e := mir.Check(x); e != api.OK {
				t.Fatal(e)
			}
			var texts []string
			for f := range x.Fns {
				text, _ := mir.Text(x, f)
				texts = append(texts, text)
			}
			if y, right := Program(x.Items, texts...); !right || !mir.Same(x, y) {
				t.Fatal(right, texts)
			}
		}
	}
}

// hasPlace tells whether one of the places that a program names fits.
func hasPlace(x api.Mir, fits func(p api.Place) bool) bool {
	for _, f := range x.Fns {
		for _, b := range f.Blocks {
			for i, s := range b.Stmts {
				l := []api.Place{s.Place, s.R.Place}
				for _, o := range append(slices.Clone(s.R.Args), b.Term.Args...) {
					l = append(l, o.Place)
				}
				if i == 0 {
					l = append(l, b.Term.Place, b.Term.Arg.Place)
				}
				if slices.ContainsFunc(l, fits) {
					return true
				}
			}
		}
	}
	return false
}

// Makers keep to what they are told.
func TestKept(t *testing.T) {
	r := rand.New(rand.NewSource(2))
	for range 100 {
		for _, m := range makers(r)[1:] {
			x := m.Program()
			if m.Plain && hasPlace(x, func(p api.Place) bool { return slices.ContainsFunc(p.Path, func(k int) bool { return k < -1 }) }) {
				t.Fatal("a payload")
			}
			for _, f := range x.Fns {
				for _, l := range f.Locals {
					if ref := strings.HasPrefix(l.Type, "&"); m.Plain && ref || m.Copied && !m.types.Copied(l.Type) {
						t.Fatal(l.Type)
					}
				}
				for _, b := range f.Blocks {
					for _, s := range b.Stmts {
						if s.Kind != api.MSet && (m.Copied || s.Kind != api.MDrop || slices.Contains(s.Place.Path, -1)) {
							t.Fatal(s)
						}
					}
				}
			}
		}
	}
}

// Statements and ends stand where they are counted to, and are found there.
func TestNumber(t *testing.T) {
	x := (&Maker{Choose: rand.New(rand.NewSource(3)).Intn}).Program()
	at := 0
	for f, fn := range x.Fns {
		for b, block := range fn.Blocks {
			for i := range len(block.Stmts) + 1 {
				from, to := block.Term.At, block.Term.Till
				if i < len(block.Stmts) {
					from, to = block.Stmts[i].From, block.Stmts[i].To
				}
				if g, c, k := find(x, at); from != at || to != at+1 || g != f || c != b || k != i {
					t.Fatal(f, b, i, from, to, g, c, k)
				}
				at++
			}
		}
	}
}

// Texts of another form are not read.
func TestOtherTexts(t *testing.T) {
	for _, text := range []string{
		"", "main\n0: ()\nbb0\nreturn\n", "fn f\n0: ()\nreturn\n", "fn f\nbb0\n_1 = \n", "fn f\nbb0\n_1 = copy\n", "fn f\nbb0\n1 = 2\n", "fn f\nbb0\n_1.x = 2\n", "fn f\nbb0\ngoto\n", "fn f\nbb0\ngoto 1 2\n", "fn f\nbb0\nreturn 1\n", "fn f\nbb0\nif copy _1 2\n", "fn f\nbb0\n_0 = call f 1 2\n", "fn f\nbb0\ndrop\n", "fn f\nbb0\nlive _1 _2\n", "fn f\nbb0\n_1 = pick E x\n", "fn f\nbb0\nswitch\n", "fn f\nbb0\n_1 = 99999999999999999999\n",
	} {
		if f, right := Function(text); right {
			t.Errorf("%q: %v", text, f)
		}
	}
	if _, right := Program(PlainItems(), "fn main\n0: ()\nbb0\nreturn\n"); right {
		t.Error("too few texts")
	}
	if p, right := Place("_1.2.*.@3"); !right || p.Local != 1 || !slices.Equal(p.Path, []int{2, -1, -5}) {
		t.Error(p, right)
	}
	if _, right := Place("1"); right {
		t.Error("no place")
	}
}

// What is spoilt is another one, right or not, whatever is chosen.
func TestSpoil(t *testing.T) {
	r := rand.New(rand.NewSource(4))
	right, items := 0, 0
	for range 300 {
		x := (&Maker{Choose: r.Intn}).Program()
		before := x
		Spoil(&x, r.Intn)
		if mir.Check(x) == api.OK {
			right++
		}
		if len(x.Items.Fns) != len(before.Items.Fns) {
			items++
		}
	}
	if right == 0 || right == 300 || items == 0 {
		t.Error(right, items)
	}
	empty := api.Mir{}
	Spoil(&empty, r.Intn)
}
