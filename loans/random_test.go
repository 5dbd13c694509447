package loans

import (
	"math/rand"
	"slices"
	"testing"

	"patina/api"
	"patina/mir"
	"patina/mirtest"
)

// wantAsTheModel holds all faces of a function to the model, at some of its points, and tells how many pairs it has there.
func wantAsTheModel(t *testing.T, r *rand.Rand, m api.Mir, f int) int {
	t.Helper()
	x := modelOf(m.Items, m.Fns[f])
	text := func() string {
		s, _ := mir.Text(m, f)
		return s
	}
	l, e := Loans(m, f)
	facts, g := Facts(m, f)
	if e != api.OK || g != api.OK || loansText(l) != loansText(x.loans) || factsText(facts, "") != factsText(x.facts(), "") {
		t.Fatalf("%v %v\n%s\n%s\n%s", e, g, factsText(facts, ""), factsText(x.facts(), ""), text())
	}
	count := 0
	for _, p := range x.points {
		if r.Intn(len(x.points)) > 9 {
			continue
		}
		a := ask(m, f, p[0], p[1])
		a.wantErrors(t, api.OK, api.OK)
		if !slices.Equal(a.holds, x.pairs(p)) || !slices.Equal(a.alive, x.alive(p)) || !slices.Equal(a.live, x.liveAt(p)) || !slices.Equal(a.against, x.against(p)) {
			t.Fatalf("%v: %v\nnot %v %v %v %v\n%s", p, a, x.pairs(p), x.alive(p), x.liveAt(p), x.against(p), text())
		}
		count += len(a.holds)
	}
	return count
}

// modelCheck is the first error of a program, as the model has it.
func modelCheck(m api.Mir) api.Diag {
	for _, f := range m.Fns {
		if d := modelOf(m.Items, f).firstError(); d.Code != api.OK {
			return d
		}
	}
	return api.Diag{}
}

// 24.1 to 24.4: MIR that is made at random.
func TestMade(t *testing.T) {
	r := rand.New(rand.NewSource(241))
	codes, pairs := map[api.Errno]int{}, 0
	for k := range 60 {
		m := (&mirtest.Maker{Choose: r.Intn, Copied: k%3 == 0}).Program()
		for f := range m.Fns {
			pairs += wantAsTheModel(t, r, m, f)
		}
		// Each function by itself, so that those behind the first wrong one are looked at, too.
		for f := range m.Fns {
			one := api.Mir{Items: m.Items, Fns: slices.Clone(m.Fns)}
			for g := range one.Fns {
				if g != f {
					one.Fns[g].Blocks = []api.MBlock{{Term: api.MTerm{Kind: api.TPanic, Code: api.ExitPanic}}}
				}
			}
			d := Check(one)
			if want := modelCheck(one); d != want {
				s, _ := mir.Text(m, f)
				t.Fatalf("%v, not %v\n%s", d, want, s)
			}
			codes[d.Code]++
		}
		if d, want := Check(m), modelCheck(m); d != want {
			t.Fatal(d, want)
		}
	}
	if pairs < 300 || codes[api.OK] < 50 || codes[api.ErrBorrow] < 10 {
		t.Error("seldom:", pairs, codes)
	}
}

// 24.4: a loan is alive nowhere but where a way leads from its point; what holds is what the rules ask for, and nothing else does (which the model tells).
func TestNowhereElse(t *testing.T) {
	r := rand.New(rand.NewSource(244))
	alive := 0
	for range 60 {
		m := (&mirtest.Maker{Choose: r.Intn, Copied: r.Intn(2) == 0}).Program()
		f := r.Intn(len(m.Fns))
		x := modelOf(m.Items, m.Fns[f])
		from := map[int]map[point]bool{}
		for p, l := range x.issued {
			x.reached = map[point]bool{}
			for _, q := range x.next[p] {
				x.reach(q)
			}
			from[l] = x.reached
		}
		for range 20 {
			p := x.points[r.Intn(len(x.points))]
			l, _ := Alive(m, f, p[0], p[1])
			for _, k := range l {
				alive++
				if !from[k][p] {
					t.Fatal(p, k, l)
				}
			}
		}
	}
	if alive < 200 {
		t.Error("seldom:", alive)
	}
}

// withUse is a program in which one number that was a constant is read through a reference instead: one more origin lives.
func withUse(r *rand.Rand, m api.Mir, f int) (api.Mir, bool) {
	more := m
	more.Fns = slices.Clone(m.Fns)
	fn := &more.Fns[f]
	var origins []int
	for k, l := range fn.Locals {
		if l.Type == "&i64" {
			origins = append(origins, k)
		}
	}
	b := r.Intn(len(fn.Blocks))
	fn.Blocks = slices.Clone(fn.Blocks)
	stmts := slices.Clone(fn.Blocks[b].Stmts)
	fn.Blocks[b].Stmts = stmts
	var numbers []int
	for i, s := range stmts {
		if s.R.Kind == api.RUse && s.R.Args[0].Kind == api.ONum {
			numbers = append(numbers, i)
		}
	}
	if len(origins) == 0 || len(numbers) == 0 {
		return m, false
	}
	p := api.Place{Local: origins[r.Intn(len(origins))], Path: []int{-1}}
	stmts[numbers[r.Intn(len(numbers))]].R.Args = []api.Operand{{Kind: api.OCopy, Place: p}}
	return more, true
}

// 24.4: more origins that live never make fewer loans alive.
func TestMoreLive(t *testing.T) {
	r := rand.New(rand.NewSource(245))
	more := 0
	for range 150 {
		m := (&mirtest.Maker{Choose: r.Intn, Copied: r.Intn(2) == 0}).Program()
		f := r.Intn(len(m.Fns))
		n, changed := withUse(r, m, f)
		if !changed {
			continue
		}
		for b, block := range m.Fns[f].Blocks {
			for range 4 {
				i := r.Intn(len(block.Stmts) + 1)
				few, _ := Alive(m, f, b, i)
				many, e := Alive(n, f, b, i)
				if e != api.OK || slices.ContainsFunc(few, func(l int) bool { return !slices.Contains(many, l) }) {
					t.Fatal(b, i, few, many, e)
				}
				if len(many) > len(few) {
					more++
				}
			}
		}
	}
	if more < 50 {
		t.Error("seldom:", more)
	}
}

// 24.5: a function without RRef and RMut has nothing wrong.
func TestWithoutReferences(t *testing.T) {
	r := rand.New(rand.NewSource(246))
	for range 100 {
		m := (&mirtest.Maker{Choose: r.Intn, Plain: true}).Program()
		if d := Check(m); d != (api.Diag{}) {
			t.Fatal(d)
		}
		m = (&mirtest.Maker{Choose: r.Intn}).Program()
		for f := range m.Fns {
			for b := range m.Fns[f].Blocks {
				block := &m.Fns[f].Blocks[b]
				block.Stmts = slices.DeleteFunc(block.Stmts, func(s api.MStmt) bool { return s.R.Kind == api.RRef || s.R.Kind == api.RMut })
			}
			if l, e := Loans(m, f); e != api.OK || len(l) > 0 {
				t.Fatal(l, e)
			}
		}
		if d := Check(m); d != (api.Diag{}) {
			t.Fatal(d)
		}
	}
}
