package loans

import (
	"math"
	"math/rand"
	"slices"
	"testing"

	"patina/api"
	"patina/mir"
	"patina/mirtest"
)

// 24.1: Meet, of any places.
func TestMeet(t *testing.T) {
	place := func(s string) api.Place {
		p, right := mirtest.Place(s)
		if !right {
			t.Fatal(s)
		}
		return p
	}
	for _, c := range []struct {
		p, q string
		want bool
	}{
		{"_1", "_1", true}, {"_1", "_1.0", true}, {"_1", "_1.*", true}, {"_1", "_1.@3.*.7", true}, {"_1.0", "_1.0", true}, {"_1.0", "_1.1", false}, {"_1.0.*", "_1.0", true}, {"_1.0.*", "_1.1.*", false}, {"_1.0.1", "_1.1", false}, {"_1.0.1", "_1.0.2", false}, {"_1.*", "_1.0", false}, {"_1.@0", "_1.@1", false}, {"_1.@1.*.0", "_1.@1", true}, {"_1.10", "_1.1", false}, {"_1", "_2", false}, {"_1", "_2.0", false}, {"_1.0", "_2.0", false}, {"_-1.-7", "_-1", true}, {"_-1", "_1", false}, {"_9223372036854775807.9223372036854775807", "_9223372036854775807", true},
	} {
		if a, b := Meet(place(c.p), place(c.q)), Meet(place(c.q), place(c.p)); a != c.want || b != c.want {
			t.Error(c, a, b)
		}
	}
	if !Meet(api.Place{Path: []int{}}, api.Place{}) || !Meet(api.Place{}, api.Place{Path: []int{}}) {
		t.Error("empty paths")
	}
}

// answers are what all faces but Check and Meet tell.
type answers struct {
	loans                    []api.Loan
	facts                    api.Facts
	holds                    [][2]int
	alive, live, against     []int
	ofFunction, ofFacts      api.Errno
	ofHolds, ofAlive, ofLive api.Errno
	ofAgainst                api.Errno
}

func ask(m api.Mir, f, b, i int) answers {
	var a answers
	a.loans, a.ofFunction = Loans(m, f)
	a.facts, a.ofFacts = Facts(m, f)
	a.holds, a.ofHolds = Holds(m, f, b, i)
	a.alive, a.ofAlive = Alive(m, f, b, i)
	a.live, a.ofLive = Live(m, f, b, i)
	a.against, a.ofAgainst = Against(m, f, b, i)
	return a
}

// wantErrors holds answers to an error of a function and one of a point, with nothing beside them.
func (a answers) wantErrors(t *testing.T, ofFunction, ofPoint api.Errno) {
	t.Helper()
	if a.ofFunction != ofFunction || a.ofFacts != ofFunction || ofFunction != api.OK && (len(a.loans) > 0 || factsText(a.facts, "") != "; ; ; ; ; ") {
		t.Error("of a function:", a, ofFunction)
	}
	if a.ofHolds != ofPoint || a.ofAlive != ofPoint || a.ofLive != ofPoint || a.ofAgainst != ofPoint || ofPoint != api.OK && len(a.holds)+len(a.alive)+len(a.live)+len(a.against) > 0 {
		t.Error("of a point:", a, ofPoint)
	}
}

// R1, R4: ErrMir ahead of ErrNone, with zeros beside them.
func TestErrors(t *testing.T) {
	good, _ := rowOf(t, "_11 = ref _1; _12 = call first copy _11 copy _7 -> 1; bb1; _10 = copy _12.*")
	wrong := func(change func(m *api.Mir)) api.Mir {
		m := good
		m.Fns = slices.Clone(good.Fns)
		change(&m)
		return m
	}
	bad := []api.Mir{
		{}, {Items: good.Items}, wrong(func(m *api.Mir) { m.Fns = m.Fns[1:] }), wrong(func(m *api.Mir) { m.Fns[0].Blocks = nil }), wrong(func(m *api.Mir) { m.Fns[7].Params = 1 }), wrong(func(m *api.Mir) { m.Fns[2].Locals = nil }), wrong(func(m *api.Mir) { m.Items.Fns = nil }),
	}
	none := [][3]int{{-1, 0, 0}, {8, 0, 0}, {math.MinInt, 0, 0}, {math.MaxInt, 0, 0}, {0, -1, 0}, {0, 2, 0}, {7, 1, 0}, {0, math.MaxInt, 0}, {0, math.MinInt, 0}, {0, 0, -1}, {0, 0, 2}, {0, 1, 2}, {0, 0, math.MinInt}, {0, 0, math.MaxInt}, {-1, -1, -1}}
	there := [][3]int{{0, 0, 0}, {0, 0, 1}, {0, 1, 0}, {0, 1, 1}, {7, 0, 0}, {7, 0, 1}}
	for _, p := range none {
		ofFunction := api.OK
		if p[0] < 0 || p[0] > 7 {
			ofFunction = api.ErrNone
		}
		ask(good, p[0], p[1], p[2]).wantErrors(t, ofFunction, api.ErrNone)
	}
	for _, p := range there {
		ask(good, p[0], p[1], p[2]).wantErrors(t, api.OK, api.OK)
	}
	for _, m := range bad {
		for _, p := range append(slices.Clone(none), there...) {
			ask(m, p[0], p[1], p[2]).wantErrors(t, api.ErrMir, api.ErrMir)
		}
		if d := Check(m); d != (api.Diag{Code: api.ErrMir}) {
			t.Error(d)
		}
	}
}

// P1: MIR of any make, and any numbers.
func TestArbitrary(t *testing.T) {
	r := rand.New(rand.NewSource(242))
	right := 0
	for range 1000 {
		m := (&mirtest.Maker{Choose: r.Intn, Copied: r.Intn(3) == 0}).Program()
		for range 1 + r.Intn(3) {
			mirtest.Spoil(&m, r.Intn)
		}
		want := mir.Check(m)
		f, b, i := r.Intn(9)-2, r.Intn(6)-1, r.Intn(9)-1
		a, d := ask(m, f, b, i), Check(m)
		if want != api.OK {
			if d != (api.Diag{Code: want}) {
				t.Fatal(d, want)
			}
			a.wantErrors(t, want, want)
			continue
		}
		right++
		ofFunction, ofPoint := api.ErrNone, api.ErrNone
		if f >= 0 && f < len(m.Fns) {
			ofFunction = api.OK
			if b >= 0 && b < len(m.Fns[f].Blocks) && i >= 0 && i <= len(m.Fns[f].Blocks[b].Stmts) {
				ofPoint = api.OK
			}
		}
		a.wantErrors(t, ofFunction, ofPoint)
		if !slices.Contains([]api.Errno{api.OK, api.ErrBorrow, api.ErrGone}, d.Code) {
			t.Fatal(d)
		}
	}
	if right < 50 || right > 900 {
		t.Error(right)
	}
}
