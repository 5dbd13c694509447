package emit_test

import (
	"math"
	"math/rand"
	"slices"
	"testing"

	"patina/api"
	"patina/emit"
)

// wantMoves holds moves that are done one by one to all that are done at once, of places that each have their own number in them.
func wantMoves(t *testing.T, from, to []int, free int) [][2]int {
	t.Helper()
	l, e := emit.Parallel(from, to, free)
	if e != api.OK {
		t.Fatalf("Parallel(%v, %v, %d): %v", from, to, free, e)
	}
	has := func(m map[int]int, place int) int {
		if v, ok := m[place]; ok {
			return v
		}
		return place
	}
	got, want := map[int]int{}, map[int]int{}
	for _, m := range l {
		got[m[0]] = has(got, m[1])
	}
	for k := range to {
		want[to[k]] = from[k]
	}
	for place := range got {
		if place != free && has(got, place) != has(want, place) {
			t.Fatalf("Parallel(%v, %v, %d): %v: %d has %d, not %d", from, to, free, l, place, has(got, place), has(want, place))
		}
	}
	for place := range want {
		if has(got, place) != has(want, place) {
			t.Fatalf("Parallel(%v, %v, %d): %v: %d has %d, not %d", from, to, free, l, place, has(got, place), has(want, place))
		}
	}
	if n := len(from); 2*len(l) > 3*n+2 {
		t.Fatalf("Parallel(%v, %v, %d): %d moves", from, to, free, len(l))
	}
	return l
}

// 9.3: the chapter's example, and shapes by hand.
func TestParallelShapes(t *testing.T) {
	if l := wantMoves(t, []int{1, 2}, []int{2, 1}, 9); len(l) != 3 {
		t.Error("a swap", l)
	}
	if l := wantMoves(t, []int{1}, []int{1}, 9); len(l) > 1 || len(l) == 1 && l[0] != [2]int{1, 1} {
		t.Error("to itself", l)
	}
	for _, none := range [][]int{nil, {}} {
		if l := wantMoves(t, none, none, 0); len(l) != 0 {
			t.Error("none", l)
		}
	}
	for _, c := range []struct {
		what     string
		from, to []int
		free     int
	}{
		{"one", []int{1}, []int{2}, 3},
		{"a chain", []int{1, 2, 3, 4}, []int{2, 3, 4, 5}, 0},
		{"a chain the other way", []int{4, 3, 2, 1}, []int{5, 4, 3, 2}, 0},
		{"a ring of three", []int{1, 2, 3}, []int{2, 3, 1}, 0},
		{"a ring of three the other way", []int{1, 2, 3}, []int{3, 1, 2}, 0},
		{"two swaps", []int{1, 2, 3, 4}, []int{2, 1, 4, 3}, 0},
		{"two swaps that stand in each other", []int{1, 3, 2, 4}, []int{2, 4, 1, 3}, 0},
		{"one to several", []int{1, 1, 1}, []int{2, 3, 4}, 0},
		{"one to several and to itself", []int{1, 1, 1}, []int{2, 1, 4}, 0},
		{"a ring with a way out", []int{1, 2, 3, 2}, []int{2, 3, 1, 7}, 0},
		{"a ring with a way out ahead of it", []int{2, 1, 2, 3}, []int{7, 2, 3, 1}, 0},
		{"a ring, a chain and one to itself", []int{5, 1, 2, 6, 7}, []int{5, 2, 1, 7, 8}, 0},
		{"a free one below 0", []int{1, 2}, []int{2, 1}, -1},
		{"places below 0", []int{-1, -2, -3}, []int{-2, -3, -1}, 0},
		{"the least and the greatest", []int{math.MinInt, math.MaxInt, 0}, []int{math.MaxInt, 0, math.MinInt}, -1},
		{"the least free one", []int{0, 1}, []int{1, 0}, math.MinInt},
		{"the greatest free one", []int{0, 1}, []int{1, 0}, math.MaxInt},
	} {
		t.Run(c.what, func(t *testing.T) { wantMoves(t, c.from, c.to, c.free) })
	}
}

// 9.3: all moves of up to four places among five.
func TestParallelAll(t *testing.T) {
	var try func(from, to []int)
	try = func(from, to []int) {
		wantMoves(t, from, to, 5)
		if len(to) == 4 {
			return
		}
		for x := range 5 {
			if slices.Contains(to, x) {
				continue
			}
			for y := range 5 {
				try(append(slices.Clone(from), y), append(slices.Clone(to), x))
			}
		}
	}
	try(nil, nil)
}

// 9.3: up to 64 members: swaps alone, one ring, and any.
func TestParallelMany(t *testing.T) {
	var swapped, turned, straight []int
	for k := range 64 {
		straight, swapped, turned = append(straight, k), append(swapped, k^1), append(turned, (k+1)%64)
	}
	wantMoves(t, straight, swapped, 64)
	wantMoves(t, straight, turned, 64)
	wantMoves(t, turned, straight, 64)
	wantMoves(t, straight, straight, 64)
	g := rand.New(rand.NewSource(1))
	for range 3000 {
		n, places := g.Intn(65), 64+g.Intn(20)
		to := g.Perm(places)[:n]
		from := make([]int, n)
		for k := range from {
			from[k] = g.Intn(places)
		}
		if g.Intn(2) == 0 {
			from = slices.Clone(to)
			g.Shuffle(n, func(a, b int) { from[a], from[b] = from[b], from[a] })
		}
		wantMoves(t, from, to, -1-g.Intn(3))
	}
}

// 9.3, R4: errors in their order, with nothing beside them.
func TestParallelErrors(t *testing.T) {
	var many []int
	for k := range 65 {
		many = append(many, k)
	}
	for _, c := range []struct {
		what     string
		from, to []int
		free     int
		e        api.Errno
	}{
		{"64", many[:64], many[:64], 64, api.OK},
		{"65", many, many, 65, api.ErrLong},
		{"65 of from", many, many[:64], -1, api.ErrLong},
		{"65 of to", nil, many, -1, api.ErrLong},
		{"65 of which the free one is one", many, many, 3, api.ErrLong},
		{"65, two of them the same", many, slices.Repeat([]int{1}, 65), 65, api.ErrLong},
		{"unlike lists", []int{1}, []int{2, 3}, 9, api.ErrArg},
		{"unlike lists", []int{1, 2}, []int{2}, 9, api.ErrArg},
		{"unlike lists", nil, []int{2}, 9, api.ErrArg},
		{"unlike lists", []int{2}, nil, 9, api.ErrArg},
		{"twice", []int{1, 2}, []int{3, 3}, 9, api.ErrArg},
		{"twice, the same move", []int{1, 1}, []int{3, 3}, 9, api.ErrArg},
		{"twice, to itself", []int{3, 3}, []int{3, 3}, 9, api.ErrArg},
		{"twice, far apart", []int{1, 2, 4, 5}, []int{3, 6, 7, 3}, 9, api.ErrArg},
		{"the free one read", []int{1, 9}, []int{2, 3}, 9, api.ErrArg},
		{"the free one written", []int{1, 2}, []int{2, 9}, 9, api.ErrArg},
		{"the free one to itself", []int{9}, []int{9}, 9, api.ErrArg},
		{"the free one below 0", []int{-1}, []int{2}, -1, api.ErrArg},
		{"the free one is 0", []int{1}, []int{0}, 0, api.ErrArg},
		{"one read twice", []int{1, 1}, []int{2, 3}, 9, api.OK},
	} {
		l, e := emit.Parallel(c.from, c.to, c.free)
		if e != c.e || e != api.OK && len(l) != 0 {
			t.Errorf("%s: %v, %v, not %v", c.what, l, e, c.e)
		}
	}
}

// R3, R6: nothing that is handed in is changed or shared, and the same is told again.
func TestParallelShares(t *testing.T) {
	from, to := append(make([]int, 0, 9), 1, 2, 3), append(make([]int, 0, 9), 2, 1, 4)
	first := wantMoves(t, from, to, 9)
	was := slices.Clone(first)
	for k := range first[:cap(first)] {
		first[:cap(first)][k] = [2]int{77, 77}
	}
	if second := wantMoves(t, from, to, 9); !slices.Equal(second, was) {
		t.Error(second, was)
	}
	if !slices.Equal(from[:9], []int{1, 2, 3, 0, 0, 0, 0, 0, 0}) || !slices.Equal(to[:9], []int{2, 1, 4, 0, 0, 0, 0, 0, 0}) {
		t.Error(from[:9], to[:9])
	}
}
