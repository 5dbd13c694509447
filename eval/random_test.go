package eval

import (
	"math/rand"
	"slices"
	"strings"
	"testing"

	"patina/api"
	"patina/check"
	"patina/parse"
	"patina/sourcetest"
)

// typedOf is the typed tree of a source that is right.
func typedOf(t *testing.T, source string) api.Typed {
	t.Helper()
	x, d := parse.Parse(source)
	if d.Code != api.OK {
		t.Fatalf("%v at %.40q of %.3000s", d, source[d.From:], source)
	}
	u, d := check.Of(x)
	if d.Code != api.OK {
		t.Fatalf("%v at %.40q of %.3000s", d, source[d.From:], source)
	}
	return u
}

func sameOutcome(a, b api.Outcome) bool {
	return a.End == b.End && a.Code == b.Code && a.Steps == b.Steps && string(a.Out) == string(b.Out)
}

// 18.1, 18.2, 18.4: made sources do what the model says, the same each time.
func TestMadeSources(t *testing.T) {
	r := rand.New(rand.NewSource(18))
	ends := map[[2]int]int{}
	for range 1200 {
		m := &sourcetest.Maker{Choose: r.Intn}
		source := m.Source(r.Intn(4))
		u := typedOf(t, source)
		if r.Intn(2) == 0 {
			u, _ = check.Of(sourcetest.Shuffled(r.Intn, u.Tree))
		}
		in := []byte("\x00\x01\x02A")[:r.Intn(5)]
		fuel := []int{r.Intn(50), r.Intn(500), 20000}[r.Intn(3)]
		model := newModel(u, in, fuel)
		_, want := model.run(functionOf(u, "main"), nil)
		got, e := Run(u, in, fuel)
		if e != api.OK || !sameOutcome(got, want) {
			t.Fatalf("%v %v, not %v\n%s", got, e, want, source)
		}
		ends[[2]int{got.End, got.Code}]++
		wantSame(t, u, in, fuel, got, source)
		if !model.past {
			other := append(slices.Clone(in[:len(in)-len(model.in)]), "something else"[:r.Intn(10)]...)
			if o, _ := Run(u, other, fuel); !sameOutcome(o, got) {
				t.Fatalf("%v with other input, not %v\n%s", o, got, source)
			}
		}
		wantCall(t, r, u, in, source)
	}
	for _, end := range [][2]int{{api.EndDone, api.ExitDone}, {api.EndDone, api.ExitOverflow}, {api.EndDone, api.ExitDivide}, {api.EndDone, api.ExitPanic}, {api.EndFuel, 0}, {api.EndUndef, 0}} {
		if ends[end] == 0 {
			t.Error("seldom:", end, ends)
		}
	}
}

// wantSame holds runs with the same fuel, and with more, to one that is told.
func wantSame(t *testing.T, u api.Typed, in []byte, fuel int, got api.Outcome, source string) {
	t.Helper()
	if o, _ := Run(u, in, fuel); !sameOutcome(o, got) {
		t.Fatalf("%v the second time, not %v\n%s", o, got, source)
	}
	for _, more := range []int{1, 30, 1000} {
		o, _ := Run(u, in, fuel+more)
		if got.End != api.EndFuel && !sameOutcome(o, got) || got.End == api.EndFuel && (!strings.HasPrefix(string(o.Out), string(got.Out)) || o.Steps < got.Steps) {
			t.Fatalf("%v with more fuel, not %v\n%s", o, got, source)
		}
	}
}

// wantCall holds a call of a function with numbers to the model.
func wantCall(t *testing.T, r *rand.Rand, u api.Typed, in []byte, source string) {
	t.Helper()
	name := []string{"f", "two", "u", "main"}[r.Intn(4)]
	args := []int64{r.Int63n(5) - 1, r.Int63n(100)}[:map[string]int{"f": 1, "two": 2}[name]]
	fuel := r.Intn(3000)
	k := functionOf(u, name)
	wantTold, want := newModel(u, in, fuel).run(k, args)
	told, o, e := Call(u, k, args, in, fuel)
	if told != wantTold || !sameOutcome(o, want) || e != api.OK {
		t.Fatalf("%s%v: %d %v %v, not %d %v\n%s", name, args, told, o, e, wantTold, want, source)
	}
}

// 18.5: a source without references, Boxes and uses of moved variables is never undefined.
func TestNeverUndefined(t *testing.T) {
	r := rand.New(rand.NewSource(185))
	done := 0
	for range 1000 {
		m := &sourcetest.Maker{Choose: r.Intn, Plain: true}
		source := m.Source(r.Intn(4))
		if strings.ContainsAny(source, "&") && strings.Contains(strings.ReplaceAll(source, "&&", ""), "&") || strings.Contains(source, "Box") {
			t.Fatal(source)
		}
		u := typedOf(t, source)
		_, want := newModel(u, []byte("A"), 5000).run(functionOf(u, "main"), nil)
		o, e := Run(u, []byte("A"), 5000)
		if o.End == api.EndUndef || e != api.OK || !sameOutcome(o, want) {
			t.Fatalf("%v %v, not %v\n%s", o, e, want, source)
		}
		if o.End == api.EndDone && o.Steps > 20 {
			done++
		}
	}
	if done < 300 {
		t.Error(done)
	}
}

// 18.3: Constant tells of each expression of made sources what the model does, if it is one of a constant's kinds.
func TestMadeConstants(t *testing.T) {
	r := rand.New(rand.NewSource(183))
	some := 0
	for range 40 {
		m := &sourcetest.Maker{Choose: r.Intn}
		u := typedOf(t, m.Source(1+r.Intn(2)))
		for range 40 {
			n := r.Intn(len(u.Tree.Nodes))
			want, ok := modelConstant(u, n)
			v, is, e := Constant(u, n)
			if _, place := check.Place(u, n); e != place || v != want || is != ok {
				t.Fatalf("%d: %d %v %v, not %d %v", n, v, is, e, want, ok)
			}
			if ok {
				some++
			}
		}
	}
	if some < 50 {
		t.Error(some)
	}
}

func modelConstant(u api.Typed, n int) (int64, bool) {
	kinds := []int{api.KNum, api.KTruth, api.KNeg, api.KNot, api.KBin}
	work := []int{n}
	for len(work) > 0 {
		x := u.Tree.Nodes[work[0]]
		if !slices.Contains(kinds, x.Kind) {
			return 0, false
		}
		work = append(work[1:], x.Kids...)
	}
	m := newModel(u, nil, 1<<30)
	v := m.expr(n)
	if m.sign != goesOn {
		return 0, false
	}
	return v[0].n, true
}

// P1: trees that are not right, and numbers of any kind.
func TestArbitrary(t *testing.T) {
	r := rand.New(rand.NewSource(181))
	texts := []string{"", "!", "&", "bool", "i64", "E", "&&E", "E::B", "x"}
	for range 300 {
		m := &sourcetest.Maker{Choose: r.Intn}
		u := typedOf(t, m.Source(1))
		u.Tree.Nodes = slices.Clone(u.Tree.Nodes)
		n := r.Intn(len(u.Tree.Nodes))
		x := &u.Tree.Nodes[n]
		switch r.Intn(8) {
		case 0:
			x.Kind = r.Intn(60) - 2
		case 1:
			x.Kids = []int{r.Intn(80) - 5, r.Intn(80) - 5}[:r.Intn(3)]
		case 2:
			x.Name = texts[r.Intn(len(texts))]
		case 3:
			x.Num = r.Int63() - r.Int63()
		case 4:
			u.Types[n] = texts[r.Intn(len(texts))]
		case 5:
			u.Vars[n] = r.Intn(300) - 20
		case 6:
			u.Locals = u.Locals[:r.Intn(len(u.Locals))]
		case 7:
			u.Items.Fns[0].Node = r.Intn(1000) - 100
		}
		at := r.Intn(len(u.Tree.Nodes)+4) - 2
		want := check.Check(u)
		_, first := Run(u, nil, r.Intn(1000))
		_, _, second := Call(u, 0, []int64{1}, nil, r.Intn(1000))
		_, _, third := Constant(u, at)
		if want != api.OK && (first != want || second != want || third != want) || want == api.OK && (first != want || second != want) {
			t.Fatal(want, first, second, third)
		}
	}
}
