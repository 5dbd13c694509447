package mirun

import (
	"bytes"
	"math/rand"
	"testing"

	"patina/api"
	"patina/mir"
	"patina/mirtest"
	"patina/moves"
)

func sameOutcome(a, b api.Outcome) bool {
	return a.End == b.End && a.Code == b.Code && a.Steps == b.Steps && bytes.Equal(a.Out, b.Out)
}

// textOf is the text of all functions.
func textOf(m api.Mir) string {
	s := ""
	for f := range m.Fns {
		text, _ := mir.Text(m, f)
		s += text
	}
	return s
}

// 21.1, 21.2: MIR that is made at random does what the model says, whatever it reads, with any fuel.
func TestMade(t *testing.T) {
	r := rand.New(rand.NewSource(211))
	ends := map[int]int{}
	for k := range 1200 {
		m := &mirtest.Maker{Choose: r.Intn, Plain: k%5 == 0}
		x := m.Program()
		if k%3 > 0 {
			m.Repair(x, moves.Check)
		}
		in := []byte("\x00\x01\x02A\xff")[:r.Intn(6)]
		fuel := []int{r.Intn(50), 300, 3000}[r.Intn(3)]
		_, want := modelRun(x, "main", nil, in, fuel)
		o, e := Run(x, in, fuel)
		if e != api.OK || !sameOutcome(o, want) {
			t.Fatalf("%v %v, not %v\n%s", e, o, want, textOf(x))
		}
		ends[o.End*1000+o.Code]++
		v, want := modelRun(x, "sum", []int64{3, 4}, nil, fuel)
		u, o, e := Call(x, 2, []int64{3, 4}, fuel)
		if e != api.OK || u != v || !sameOutcome(o, want) {
			t.Fatalf("sum: %v %d %v, not %d %v\n%s", e, u, o, v, want, textOf(x))
		}
	}
	for _, end := range []int{1000, 1101, 1102, 1103, 2000, 3000} {
		if ends[end] < 10 {
			t.Error(ends)
		}
	}
}
