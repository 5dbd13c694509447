package check

import (
	"math/rand"
	"testing"

	"patina/api"
	"patina/parse"
	"patina/sourcetest"
)

// 16.1: sources in which all fits, or some do not, in the order of the source and with their nodes in others.
func TestMadeSources(t *testing.T) {
	r := rand.New(rand.NewSource(16))
	told := map[api.Errno]int{}
	for k := range 6000 {
		m := &maker{r: r, odds: []int{0, 400, 150, 50}[k%4]}
		source := m.source(r.Intn(4))
		x, d := parse.Parse(source)
		if d.Code != api.OK {
			t.Fatal(d, source[d.From:], source)
		}
		if r.Intn(2) == 0 {
			x = sourcetest.Shuffled(r.Intn, x)
		}
		want, wd := modelOf(x)
		got, d := Of(x)
		if d != wd || !identical(got, want) {
			t.Fatalf("%v %v, not %v %v\n%s", d, source[d.From:d.To], wd, source[wd.From:wd.To], source)
		}
		if m.odds == 0 && d.Code != api.OK {
			t.Fatalf("%v %v\n%s", d, source[d.From:d.To], source)
		}
		told[d.Code]++
	}
	for _, code := range []api.Errno{api.OK, api.ErrType, api.ErrVar, api.ErrCall, api.ErrField, api.ErrPlace, api.ErrMut, api.ErrLoop, api.ErrPattern, api.ErrDeref, api.ErrUnknown, api.ErrInner} {
		if told[code] < 10 {
			t.Error("seldom told:", code, told[code])
		}
	}
}
