package desk

import (
	"math"
	"math/rand"
	"testing"

	"patina/api"
	"patina/driver"
	"patina/sourcetest"
)

// 28.2: Agrees with each of its answers.
func TestAgrees(t *testing.T) {
	more := make([]byte, api.MaxSource+1)
	for _, c := range []struct {
		source     string
		in         []byte
		fuel       int
		done, same bool
		want       api.Diag
	}{
		{"fn main() { print(1); }", nil, 100, true, true, api.Diag{}}, {"fn main() { print(1); }", nil, 4, true, true, api.Diag{}}, {"fn main() { print(1); }", nil, 3, false, false, api.Diag{}}, {"fn main() { print(1); }", nil, 0, false, false, api.Diag{}}, {"fn main() { print(1); }", nil, math.MaxInt, true, true, api.Diag{}}, {wrongEnd, []byte{0}, 100, true, true, api.Diag{}}, {"fn main() { panic(); }", nil, 100, true, true, api.Diag{}}, {"fn main() { print(9223372036854775807 + read()); }", []byte{1}, 100, true, true, api.Diag{}},
		{endless, nil, 1000, false, false, api.Diag{}}, {deep, nil, 100000, false, false, api.Diag{}}, {"enum L { N, C(Box<L>) } fn main() { let mut l = L::N; let mut i = 0; while i < 30000 { l = L::C(Box::new(l)); i = i + 1; } print(i); }", nil, 1000000, true, true, api.Diag{}}, {"fn f(n: i64) -> i64 { if n == 0 { 0 } else { 1 + f(n - 1) } } fn main() { print(f(990)); }", nil, 1000000, true, true, api.Diag{}},
		{noMain, nil, 100, false, false, api.Diag{Code: api.ErrMain}}, {noMain, more, -1, false, false, api.Diag{Code: api.ErrMain}}, {noLoans, nil, 100, false, false, api.Diag{Code: api.ErrBorrow, From: 73, To: 78}}, {noMoves, more, -1, false, false, api.Diag{Code: api.ErrMoved, From: 63, To: 65}}, {taken, more, 100, false, false, api.Diag{Code: api.ErrLong}}, {taken, more, -1, false, false, api.Diag{Code: api.ErrLong}}, {taken, nil, -1, false, false, api.Diag{Code: api.ErrArg}}, {taken, more[:api.MaxSource], 100, true, true, api.Diag{}},
	} {
		if done, same, d := Agrees(c.source, c.in, c.fuel); done != c.done || same != c.same || d != c.want {
			t.Errorf("%d of input, fuel %d: %v %v %v\n%s", len(c.in), c.fuel, done, same, d, c.source)
		}
	}
}

// P2: when an image ends as its source does, and when they part.
func TestEndsAs(t *testing.T) {
	source := api.Outcome{End: api.EndDone, Code: 102, Out: []byte("1\n2\n"), Steps: 5}
	for _, c := range []struct {
		end, code int
		out       string
		want      bool
	}{
		{api.EndDone, 102, "1\n2\n", true}, {api.EndDone, 102, "1\n2", false}, {api.EndDone, 102, "1\n2\n3\n", false}, {api.EndDone, 102, "", false}, {api.EndDone, 102, "1\n3\n", false}, {api.EndDone, 0, "1\n2\n", false}, {api.EndDone, 103, "1\n2\n", false}, {api.EndFuel, 102, "1\n2\n", false}, {api.EndUndef, 102, "1\n2\n", false},
		{api.EndDone, api.ExitHeap, "1\n2\n", true}, {api.EndDone, api.ExitHeap, "1\n", true}, {api.EndDone, api.ExitHeap, "", true}, {api.EndDone, api.ExitHeap, "2\n", false}, {api.EndDone, api.ExitStack, "1\n", true}, {api.EndDone, api.ExitStack, "1\n2\n3\n", false}, {api.EndFuel, api.ExitHeap, "1\n", false}, {api.EndUndef, api.ExitStack, "", false},
	} {
		if got := endsAs(api.Outcome{End: c.end, Code: c.code, Out: []byte(c.out), Steps: 9}, source); got != c.want {
			t.Error(c, got)
		}
	}
	for _, c := range [][3]int{{1, 1, 1}, {7, 6, 42}, {math.MaxInt, 1, math.MaxInt}, {math.MaxInt, 2, math.MaxInt}, {math.MaxInt / 2, 2, math.MaxInt - 1}, {1 << 40, 1 << 40, math.MaxInt}, {1 << 31, 1 << 31, 1 << 62}} {
		if got := product(c[0], c[1]); got != c[2] {
			t.Error(c, got)
		}
	}
}

// 28.3, P2: no source has an image that parts.
func TestNeverParts(t *testing.T) {
	r := rand.New(rand.NewSource(281))
	count := map[[2]bool]int{}
	refused := 0
	for k := range 600 {
		source := (&sourcetest.Maker{Choose: r.Intn, Plain: k%2 == 0}).Source(r.Intn(3))
		in := make([]byte, r.Intn(5))
		r.Read(in)
		done, same, d := Agrees(source, in, 1+r.Intn(1<<(4+k%8)))
		_, want := driver.Compile(source)
		if d != want || d.Code != api.OK && (done || same) || done != same {
			t.Fatalf("%v %v %v, %v\n%s", done, same, d, want, source)
		}
		if d.Code != api.OK {
			refused++
			continue
		}
		count[[2]bool{done, same}]++
	}
	if count[[2]bool{true, true}] < 50 || count[[2]bool{false, false}] < 10 || refused < 50 {
		t.Error("seldom:", count, refused)
	}
}
