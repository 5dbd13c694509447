package build

import (
	"bytes"
	"math/rand"
	"testing"

	"patina/api"
	"patina/check"
	"patina/eval"
	"patina/mirun"
	"patina/sourcetest"
)

// 21.4: what is built does what its tree does: where the run of one of both ends, so does the other one's, with the same code and the same output. (None of these sources has a match of a place behind a pointer that is gone, whose first arm is _: the tree finds that place, and is undefined; MIR has nothing of it.)
func TestDoesWhatTheTreeDoes(t *testing.T) {
	const fuel = 100000
	r := rand.New(rand.NewSource(214))
	codes := map[int]int{}
	for k := range 1000 {
		m := &sourcetest.Maker{Choose: r.Intn, Plain: k%5 == 0}
		source := m.Source(r.Intn(4))
		u := typedOf(t, source)
		if r.Intn(2) == 0 {
			u, _ = check.Of(sourcetest.Shuffled(r.Intn, u.Tree))
		}
		x, d := Of(u)
		if d.Code != api.OK {
			continue
		}
		in := []byte("\x00\x01\x02A")[:r.Intn(5)]
		a, _ := eval.Run(u, in, fuel)
		b, _ := mirun.Run(x, in, fuel)
		if a.End == api.EndFuel && b.End == api.EndFuel {
			continue
		}
		if a.End != b.End || a.Code != b.Code || a.End == api.EndDone && !bytes.Equal(a.Out, b.Out) {
			t.Fatalf("%v, not %v\n%s", b, a, source)
		}
		codes[a.End*1000+a.Code]++
	}
	if codes[1000] < 200 || codes[1101] < 2 || codes[1103] < 10 || codes[3000] < 10 {
		t.Error(codes)
	}
}
