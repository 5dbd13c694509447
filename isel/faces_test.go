package isel

import (
	"math/rand"
	"slices"
	"strconv"
	"strings"
	"testing"

	"patina/api"
	"patina/lir"
	"patina/mir"
	"patina/mirtest"
)

// R1, R4: ErrMir, with nothing beside it.
func TestErrors(t *testing.T) {
	good := programOf(t, "bb0; _0 = (); return")
	for _, change := range []func(m *api.Mir){
		func(m *api.Mir) { *m = api.Mir{} }, func(m *api.Mir) { m.Fns = nil }, func(m *api.Mir) { m.Fns = m.Fns[1:] }, func(m *api.Mir) { m.Items.Fns = nil },
		func(m *api.Mir) { m.Fns[0].Blocks = nil }, func(m *api.Mir) { m.Fns[1].Params++ }, func(m *api.Mir) { m.Fns[2].Locals = nil }, func(m *api.Mir) { m.Fns[0].Name = "it" },
		func(m *api.Mir) { m.Fns[3].Blocks = make([]api.MBlock, api.MaxBlocks+1) },
	} {
		m := good
		m.Fns = slices.Clone(good.Fns)
		change(&m)
		if l, e := Make(m); e != api.ErrMir || len(l) > 0 {
			t.Error(l, e)
		}
	}
	if text := lirText(madeOf(t, good)); text != "fn main 0 2 0\nblock 0\n\tret -1\n" {
		t.Error(text)
	}
	if Factor != 65536 {
		t.Error(Factor)
	}
}

// P1: MIR with one thing changed, right or not.
func TestSpoilt(t *testing.T) {
	r := rand.New(rand.NewSource(262))
	right := 0
	for k := range 3000 {
		m := (&mirtest.Maker{Choose: r.Intn, Plain: k%3 == 0, Copied: k%3 == 1, Onward: k%2 == 0}).Program()
		mirtest.Spoil(&m, r.Intn)
		want := mir.Check(m)
		if l, e := Make(m); e != want || e != api.OK && len(l) > 0 {
			t.Fatal(e, want)
		}
		if want == api.OK {
			right++
			madeOf(t, m)
		}
	}
	if right < 200 || right > 2500 {
		t.Error(right)
	}
}

// renamed is a program with other names of locals, and other places in the source.
func renamed(r *rand.Rand, m api.Mir) api.Mir {
	x := api.Mir{Items: m.Items}
	for _, f := range m.Fns {
		f.Locals = slices.Clone(f.Locals)
		for k := range f.Locals {
			f.Locals[k].Name, f.Locals[k].Mut = strings.Repeat("v", r.Intn(3))+strconv.Itoa(r.Intn(9)), r.Intn(2) == 0
		}
		f.Blocks = slices.Clone(f.Blocks)
		for b := range f.Blocks {
			k := &f.Blocks[b]
			k.Stmts = slices.Clone(k.Stmts)
			for i := range k.Stmts {
				k.Stmts[i].From, k.Stmts[i].To = r.Int()-r.Int(), r.Int()
			}
			k.Term.At, k.Term.Till = r.Intn(99), -r.Intn(99)
		}
		x.Fns = append(x.Fns, f)
	}
	return x
}

// 26.2: the same of the same, whatever locals are named, and wherever things stand in the source.
func TestSame(t *testing.T) {
	r := rand.New(rand.NewSource(263))
	for k := range 150 {
		m := (&mirtest.Maker{Choose: r.Intn, Plain: k%3 == 0, Onward: k%2 == 0}).Program()
		l := madeOf(t, m)
		if !lir.Same(l, madeOf(t, m)) || !lir.Same(l, madeOf(t, renamed(r, m))) {
			t.Fatal(textOf(m))
		}
	}
}

// 26.3: without Boxes there is no heap, whatever is lent, passed and told.
func TestNoHeap(t *testing.T) {
	m := benchOf(t, "struct Q { a: i64, b: E } enum E { A, B(i64), C(bool) }", "1: Q; 2: E; 3: &mut Q; 4: &i64; 5: i64; 6: (); bb0; _2 = pick E 1 5; _1 = make Q 4 move _2; _3 = mut _1; _1 = call turn move _3 -> 1; bb1; _4 = ref _1.0; _5 = copy _4.* + 1; _6 = call print copy _5 -> 2; bb2; _0 = (); return",
		[2]string{"turn(r: &mut Q) -> Q", "2: E; bb0; _2 = move _1.*.1; _0 = make Q 9 move _2; return"})
	l := madeOf(t, m)
	if hasBox(m) || len(l) != 2 || ran(t, m, l, nil) != same {
		t.Error(lirText(l))
	}
}
