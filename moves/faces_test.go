package moves

import (
	"math"
	"math/rand"
	"slices"
	"strings"
	"testing"

	"patina/api"
	"patina/mir"
	"patina/mirtest"
)

// 22.2: Within, of any places.
func TestWithin(t *testing.T) {
	place := func(s string) api.Place {
		p, right := mirtest.Place(s)
		if !right {
			t.Fatal(s)
		}
		return p
	}
	for _, c := range []struct {
		p, q string
		want bool
	}{
		{"_1", "_1", true}, {"_1.0", "_1", true}, {"_1", "_1.0", false}, {"_1.0", "_1.0", true}, {"_1.0.1", "_1.0", true}, {"_1.0.1", "_1", true}, {"_1.0", "_1.1", false}, {"_1.0.1", "_1.1", false}, {"_1.1.0", "_1.0", false}, {"_1", "_2", false}, {"_1.0", "_2", false}, {"_1.0", "_2.0", false}, {"_1.*", "_1", true}, {"_1.*", "_1.*", true}, {"_1.*", "_1.0", false}, {"_1.@0", "_1.@1", false}, {"_1.@1.*.0", "_1.@1.*", true}, {"_1.10", "_1.1", false}, {"_-1.-7", "_-1", true}, {"_-1", "_-1", true}, {"_9223372036854775807.9223372036854775807", "_9223372036854775807", true},
	} {
		if got := Within(place(c.p), place(c.q)); got != c.want {
			t.Error(c, got)
		}
	}
	if !Within(api.Place{Path: []int{}}, api.Place{}) || !Within(api.Place{}, api.Place{Path: []int{}}) {
		t.Error("empty paths")
	}
}

// usesText are the answers of Uses as the model tells them.
func usesText(places []api.Place, moved []bool) string {
	var l []string
	for k, p := range places {
		word := "use "
		if moved[k] {
			word = "move "
		}
		l = append(l, word+mirtest.PlaceText(p))
	}
	return strings.Join(l, ", ")
}

// 22.3: Uses of each kind of statement and end.
func TestUses(t *testing.T) {
	for line, want := range map[string]string{
		"_7 = move _1": "move _1", "_10 = copy _1.*": "use _1.*", "_10 = 5": "", "_11 = true": "", "_23 = ()": "", "_10 = copy _10 + copy _1.*": "use _10, use _1.*", "_11 = 1 < copy _10": "use _10", "_10 = neg copy _10": "use _10", "_10 = neg 1": "", "_11 = not copy _11": "use _11", "_13 = ref _1.*": "use _1.*", "_14 = mut _2.0": "use _2.0", "_10 = tag _3": "use _3", "_10 = tag _21.*": "use _21.*", "_18 = box move _1": "move _1", "_7 = box copy _10": "use _10", "_7 = box 1": "", "_12 = make S copy _10 move _1": "use _10, move _1", "_8 = make D move _1 move _1": "move _1, move _1", "_24 = make N": "", "_9 = pick E 0": "", "_9 = pick E 1 copy _10": "use _10", "_9 = pick E 2 move _12": "move _12", "_2.0 = move _6.*.1": "move _6.*.1", "_1.* = copy _1.*": "use _1.*", "_25 = copy _4": "use _4", "_14 = move _14": "move _14", "_12 = move _3.@2": "move _3.@2",
		"drop _1": "", "drop _6.*.0": "", "free _1": "", "live _1": "", "dead _1": "",
	} {
		m, _ := rowOf(t, line)
		wantUses(t, m, line, 0, 1, want)
	}
	for line, want := range map[string]string{
		"return": "", "panic 101": "", "goto 0": "", "if copy _11 0 0": "use _11", "if true 0 0": "", "switch copy _1.* 3 0 0": "use _1.*", "switch 4 3 0 0": "", "_0 = call print copy _10 -> 0": "use _10", "_0 = call print 1 -> 0": "", "_10 = call read -> 0": "", "_2.0 = call id move _1 -> 0": "move _1", "_0 = call two move _1 move _2.0 -> 0": "move _1, move _2.0", "_0 = call late move _1 copy _10 -> 0": "move _1, use _10", "_0 = call early 7 move _1 -> 0": "move _1", "_6.* = call give -> 0": "",
	} {
		m, _ := rowOf(t, "drop _1; "+line)
		wantUses(t, m, line, 0, 2, want)
	}
	m, _ := rowOf(t, "return; bb1; _7 = move _17; if copy _11 1 1")
	wantUses(t, m, "no way leads there", 1, 0, "move _17")
	wantUses(t, m, "no way leads there", 1, 1, "use _11")
}

func wantUses(t *testing.T, m api.Mir, what string, b, i int, want string) {
	t.Helper()
	places, moved, e := Uses(m, 0, b, i)
	if e != api.OK || len(places) != len(moved) || usesText(places, moved) != want {
		t.Errorf("%s: %v %v %v, not %s", what, places, moved, e, want)
	}
	if got := pointOf(m.Fns[0].Blocks[b], i).uses(); got != want {
		t.Errorf("%s: the model says %s", what, got)
	}
}

// 22.3: Reached, of graphs of each kind.
func TestReached(t *testing.T) {
	for row, want := range map[string][]int{
		"return": {0}, "panic 101": {0}, "goto 0": {0}, "goto 1; bb1; return": {0, 1}, "goto 2; bb1; return; bb2; return": {0, 2}, "goto 2; bb1; goto 2; bb2; return; bb3; goto 1": {0, 2}, "if true 3 1; bb1; goto 1; bb2; return; bb3; goto 1": {0, 1, 3}, "switch 1 1 4 2 2 3; bb1; return; bb2; return; bb3; return; bb4; goto 0": {0, 2, 3, 4}, "goto 3; bb1; return; bb2; goto 1; bb3; goto 2": {0, 1, 2, 3}, "_7 = call id move _1; goto 1": {0, 1}, "return; bb1; goto 0": {0},
	} {
		m, _ := rowOf(t, row)
		if l, e := Reached(m, 0); e != api.OK || !slices.Equal(l, want) {
			t.Errorf("%s: %v %v, not %v", row, l, e, want)
		}
		if l, e := Reached(m, 5); e != api.OK || !slices.Equal(l, []int{0}) {
			t.Errorf("%s: %v %v", row, l, e)
		}
	}
}

// R1, R4: ErrMir ahead of ErrNone, with zeros beside them.
func TestErrors(t *testing.T) {
	good, _ := rowOf(t, "_7 = move _1; _1 = call id move _7; drop _1")
	wrong := func(change func(m *api.Mir)) api.Mir {
		m := good
		m.Fns = slices.Clone(good.Fns)
		change(&m)
		return m
	}
	bad := []api.Mir{
		{}, {Items: good.Items}, wrong(func(m *api.Mir) { m.Fns = m.Fns[1:] }), wrong(func(m *api.Mir) { m.Fns[0].Blocks = nil }), wrong(func(m *api.Mir) { m.Fns[6].Params = 1 }), wrong(func(m *api.Mir) { m.Fns[2].Locals = nil }),
	}
	type point struct{ f, b, i int }
	none := []point{{-1, 0, 0}, {7, 0, 0}, {math.MinInt, 0, 0}, {math.MaxInt, 0, 0}, {0, -1, 0}, {0, 2, 0}, {6, 1, 0}, {0, math.MaxInt, 0}, {0, math.MinInt, 0}, {0, 0, -1}, {0, 0, 3}, {0, 1, 2}, {0, 0, math.MinInt}, {0, 0, math.MaxInt}, {-1, -1, -1}}
	there := []point{{0, 0, 0}, {0, 0, 2}, {0, 1, 0}, {0, 1, 1}, {6, 0, 0}, {6, 0, 1}}
	look := func(m api.Mir, l []point, want api.Errno) {
		t.Helper()
		for _, p := range l {
			a, e := Maybe(m, p.f, p.b, p.i)
			b, f := Sure(m, p.f, p.b, p.i)
			c, d, g := Uses(m, p.f, p.b, p.i)
			if e != want || f != want || g != want || want != api.OK && len(a)+len(b)+len(c)+len(d) > 0 {
				t.Error(p, a, e, b, f, c, d, g)
			}
		}
	}
	look(good, none, api.ErrNone)
	look(good, there, api.OK)
	for _, m := range bad {
		look(m, none, api.ErrMir)
		look(m, there, api.ErrMir)
		if d := Check(m); d != (api.Diag{Code: api.ErrMir}) {
			t.Error(d)
		}
		for _, f := range []int{-1, 0, 7} {
			if l, e := Reached(m, f); e != api.ErrMir || len(l) > 0 {
				t.Error(l, e)
			}
		}
	}
	for _, f := range []int{-1, 7, math.MinInt, math.MaxInt} {
		if l, e := Reached(good, f); e != api.ErrNone || len(l) > 0 {
			t.Error(l, e)
		}
	}
}

// P1: MIR of any make, and any numbers.
func TestArbitrary(t *testing.T) {
	r := rand.New(rand.NewSource(222))
	right := 0
	for range 1500 {
		m := (&mirtest.Maker{Choose: r.Intn, Plain: r.Intn(3) == 0}).Program()
		for range 1 + r.Intn(3) {
			mirtest.Spoil(&m, r.Intn)
		}
		want := mir.Check(m)
		f, b, i := r.Intn(9)-2, r.Intn(6)-1, r.Intn(9)-1
		d := Check(m)
		_, e1 := Maybe(m, f, b, i)
		_, e2 := Sure(m, f, b, i)
		_, _, e3 := Uses(m, f, b, i)
		_, e4 := Reached(m, f)
		if want != api.OK {
			if d != (api.Diag{Code: want}) || e1 != want || e2 != want || e3 != want || e4 != want {
				t.Fatal(want, d, e1, e2, e3, e4)
			}
			continue
		}
		right++
		isFn := f >= 0 && f < len(m.Fns)
		isPoint := isFn && b >= 0 && b < len(m.Fns[f].Blocks) && i >= 0 && i <= len(m.Fns[f].Blocks[b].Stmts)
		if (e4 == api.OK) != isFn || (e1 == api.OK) != isPoint || e2 != e1 || e3 != e1 || !slices.Contains([]api.Errno{api.OK, api.ErrMoved, api.ErrMoveOut}, d.Code) {
			t.Fatal(f, b, i, d, e1, e2, e3, e4)
		}
	}
	if right < 100 || right > 1400 {
		t.Error(right)
	}
}
