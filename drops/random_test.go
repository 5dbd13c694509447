package drops

import (
	"math/rand"
	"slices"
	"testing"

	"patina/api"
	"patina/lookup"
	"patina/mir"
	"patina/mirtest"
	"patina/moves"
)

// entered is a program with a block ahead of each function's own ones, so that no way leads back to block 0: of what comes in there no edge can drop anything.
func entered(m api.Mir) api.Mir {
	for f := range m.Fns {
		fn := &m.Fns[f]
		fn.Blocks = slices.Insert(fn.Blocks, 0, api.MBlock{Term: api.MTerm{Kind: api.TGoto, To: []int{0}}})
		for b := range fn.Blocks {
			for k := range fn.Blocks[b].Term.To {
				fn.Blocks[b].Term.To[k]++
			}
		}
	}
	mirtest.Number(m)
	return m
}

// wantAsTheModel holds Make and Edges to the model, and to each other, and tells what Make made, and on how many edges something is dropped.
func wantAsTheModel(t *testing.T, m api.Mir) (api.Mir, int) {
	t.Helper()
	got, e := Make(m)
	if e != api.OK || mir.Check(got) != api.OK {
		t.Fatal(e)
	}
	want, count := api.Mir{Items: m.Items}, 0
	for f, fn := range m.Fns {
		x := modelOf(m.Items, fn)
		want.Fns = append(want.Fns, x.made())
		l, e := Edges(m, f)
		if e != api.OK || edgesText(l) != edgesText(x.edges()) {
			t.Fatalf("%v %s, not %s\n%s", e, edgesText(l), edgesText(x.edges()), rowOf(m, f))
		}
		wantDoneOnEdges(t, l, len(fn.Blocks), got.Fns[f])
		count += len(l)
	}
	for f := range m.Fns {
		if x, y := placesText(got.Fns[f]), placesText(want.Fns[f]); rowOf(got, f) != rowOf(want, f) || x != y {
			t.Fatalf("%s\n%s\nnot\n%s\n%s\nof\n%s", rowOf(got, f), x, rowOf(want, f), y, rowOf(m, f))
		}
	}
	if !mir.Same(got, want) {
		t.Fatal("other functions, or items")
	}
	return got, count
}

// wantDoneOnEdges holds the blocks that are new to what is done on edges.
func wantDoneOnEdges(t *testing.T, l []api.EdgeDrop, old int, f api.MFn) {
	t.Helper()
	if len(f.Blocks) != old+len(l) {
		t.Fatal(len(f.Blocks), old, len(l))
	}
	for k, e := range l {
		b := f.Blocks[old+k]
		var places []api.Place
		for _, s := range b.Stmts {
			places = append(places, s.Place)
		}
		to := f.Blocks[e.From].Term.To
		if mirtest.PlaceTexts(places) != mirtest.PlaceTexts(e.Places) || !slices.Equal(b.Term.To, []int{e.To}) || !slices.Contains(to, old+k) || slices.Contains(to, e.To) {
			t.Fatal(e, b, to)
		}
	}
}

// inPayload tells whether a place lies within an enum's payload.
func inPayload(p api.Place) bool {
	return slices.ContainsFunc(p.Path, func(k int) bool { return k < -1 })
}

// isLost tells whether a place of a type has a Box, but in enums, that is not surely gone.
func isLost(known *lookup.Types, p api.Place, t string, sure mirtest.Gone) bool {
	if inPayload(p) || sure.Has(p) {
		return false
	}
	fields, _ := known.Fields(t)
	for k, f := range fields {
		if isLost(known, api.Place{Local: p.Local, Path: append(slices.Clone(p.Path), k)}, f.Type, sure) {
			return true
		}
	}
	return lookup.IsBox(t)
}

// wantDefinite holds what Make made to 23.2, at some of its points: of a function whose moves are right, what may be gone and owns, but in enums, is surely gone.
func wantDefinite(t *testing.T, r *rand.Rand, m api.Mir, right bool) {
	t.Helper()
	known := lookup.New(m.Items)
	for f, fn := range m.Fns {
		reached, _ := moves.Reached(m, f)
		for _, b := range reached {
			for i := range len(fn.Blocks[b].Stmts) + 1 {
				isDrop := i < len(fn.Blocks[b].Stmts) && fn.Blocks[b].Stmts[i].Kind == api.MDrop
				if r.Intn(60) > 0 && (!isDrop || r.Intn(8) > 0) {
					continue
				}
				may, _ := moves.Maybe(m, f, b, i)
				if isDrop && mirtest.Gone(may).HasPart(fn.Blocks[b].Stmts[i].Place) {
					t.Fatalf("%d.%d: %s\n%s", b, i, mirtest.PlaceTexts(may), rowOf(m, f))
				}
				sure, _ := moves.Sure(m, f, b, i)
				for _, p := range may {
					if of, _ := known.At(fn.Locals[p.Local].Type, p.Path); right && isLost(known, p, of, sure) {
						t.Fatalf("%d.%d: %s\n%s", b, i, mirtest.PlaceText(p), rowOf(m, f))
					}
				}
			}
		}
	}
}

// breaksEnums tells whether something goes within an enum's payload that leaves a rest there: such a rest is dropped on each edge behind, where it is new to all that comes there.
func breaksEnums(m api.Mir) bool {
	for _, f := range m.Fns {
		x := modelOf(m.Items, f)
		for b := range f.Blocks {
			if !x.reached[b] {
				continue
			}
			g := x.ends[b]
			for _, p := range enumsWhole(slices.Clone(g)) {
				if len(g.Parts(p)) > 0 && !g.Has(p) && len(x.there(p, g)) > 0 {
					return true
				}
			}
		}
	}
	return false
}

// 23.1, 23.2: MIR that is made at random, as it is, and with right moves.
func TestMade(t *testing.T) {
	r := rand.New(rand.NewSource(231))
	again, edges, changed := 0, 0, 0
	for k := range 240 {
		mk := &mirtest.Maker{Choose: r.Intn, Plain: k%4 == 0}
		m := mk.Program()
		if k%3 > 0 {
			m = entered(m)
			mk.Repair(m, moves.Check)
		}
		x, n := wantAsTheModel(t, m)
		edges += n
		if !mir.Same(x, m) {
			changed++
		}
		wantDefinite(t, r, x, k%3 > 0)
		if k%3 == 0 || breaksEnums(m) {
			continue
		}
		again++
		if y, e := Make(x); e != api.OK || !mir.Same(x, y) {
			t.Fatal(e, "made again, it is another one")
		}
		for f := range x.Fns {
			if l, e := Edges(x, f); e != api.OK || len(l) > 0 {
				t.Fatalf("%v %s\n%s", e, edgesText(l), rowOf(x, f))
			}
		}
	}
	if again < 60 || edges < 600 || changed < 180 {
		t.Error("seldom:", again, edges, changed)
	}
}
