package drops

import (
	"slices"
	"strings"
	"testing"

	"patina/api"
	"patina/mir"
	"patina/mirtest"
)

// 23.1: what is gone on one way alone is dropped on the other one: a place, a part, the whole where a part is gone, parts of each way.
func TestMeetings(t *testing.T) {
	const box, two = "it(c: bool, b: Box<i64>)", "it(c: bool, d: D, e: Box<D>)"
	wantMade(t, []made{
		{box, "3: Box<i64>; bb0; _0 = (); if copy _1 1 2; bb1; _3 = move _2; drop _3; goto 2; bb2; drop _2; return", "bb0; _0 = (); if copy _1 1 3; bb1; _3 = move _2; drop _3; goto 2; bb2; return; bb3; drop _2; goto 2", "0>2 _2"},
		{box, "bb0; _0 = (); if copy _1 1 2; bb1; goto 3; bb2; drop _2; goto 3; bb3; drop _2; return", "bb0; _0 = (); if copy _1 1 2; bb1; goto 4; bb2; drop _2; goto 3; bb3; return; bb4; drop _2; goto 3", "1>3 _2"},
		{box, "bb0; _0 = (); if copy _1 1 2; bb1; drop _2; goto 3; bb2; drop _2; goto 3; bb3; drop _2; return", "bb0; _0 = (); if copy _1 1 2; bb1; drop _2; goto 3; bb2; drop _2; goto 3; bb3; return", ""},
		{box, "bb0; _0 = (); if copy _1 1 2; bb1; goto 3; bb2; goto 3; bb3; drop _2; return", "bb0; _0 = (); if copy _1 1 2; bb1; goto 3; bb2; goto 3; bb3; drop _2; return", ""},
		{box, "bb0; _0 = (); if copy _1 1 2; bb1; free _2; goto 3; bb2; goto 3; bb3; return", "bb0; _0 = (); if copy _1 1 2; bb1; free _2; goto 3; bb2; goto 4; bb3; return; bb4; drop _2; goto 3", "2>3 _2"},
		{box, "bb0; _0 = (); if copy _1 1 2; bb1; drop _2; goto 3; bb2; goto 3; bb3; _2 = box 1; drop _2; return", "bb0; _0 = (); if copy _1 1 2; bb1; drop _2; goto 3; bb2; goto 4; bb3; _2 = box 1; drop _2; return; bb4; drop _2; goto 3", "2>3 _2"},
		{box, "bb0; _0 = (); if copy _1 1 2; bb1; drop _2; return; bb2; goto 3; bb3; drop _2; return", "bb0; _0 = (); if copy _1 1 2; bb1; drop _2; return; bb2; goto 3; bb3; drop _2; return", ""},
		{two, "bb0; _0 = (); if copy _1 1 2; bb1; drop _2.0; goto 3; bb2; goto 3; bb3; drop _2; drop _3; return", "bb0; _0 = (); if copy _1 1 2; bb1; drop _2.0; goto 3; bb2; goto 4; bb3; drop _2.1; drop _3; return; bb4; drop _2.0; goto 3", "2>3 _2.0"},
		{two, "bb0; _0 = (); if copy _1 1 2; bb1; drop _2.0; goto 3; bb2; drop _2.1; goto 3; bb3; drop _2; drop _3; return", "bb0; _0 = (); if copy _1 1 2; bb1; drop _2.0; goto 4; bb2; drop _2.1; goto 5; bb3; drop _3; return; bb4; drop _2.1; goto 3; bb5; drop _2.0; goto 3", "1>3 _2.1; 2>3 _2.0"},
		{two, "bb0; _0 = (); if copy _1 1 2; bb1; drop _2.0; goto 3; bb2; drop _2; goto 3; bb3; drop _2; drop _3; return", "bb0; _0 = (); if copy _1 1 2; bb1; drop _2.0; goto 4; bb2; drop _2; goto 3; bb3; drop _3; return; bb4; drop _2.1; goto 3", "1>3 _2.1"},
		{two, "bb0; _0 = (); if copy _1 1 2; bb1; drop _3.*.1; goto 3; bb2; drop _3; goto 3; bb3; drop _3; return", "bb0; _0 = (); if copy _1 1 2; bb1; drop _3.*.1; goto 4; bb2; drop _3; goto 3; bb3; return; bb4; drop _3.*.0; free _3; goto 3", "1>3 _3.*.0 _3"},
		{two, "bb0; _0 = (); if copy _1 1 2; bb1; drop _3.*; goto 3; bb2; drop _3; goto 3; bb3; drop _3; return", "bb0; _0 = (); if copy _1 1 2; bb1; drop _3.*; goto 4; bb2; drop _3; goto 3; bb3; return; bb4; free _3; goto 3", "1>3 _3"},
		{two, "bb0; _0 = (); if copy _1 1 2; bb1; drop _3.*; goto 3; bb2; drop _3.*.0; goto 3; bb3; drop _3; return", "bb0; _0 = (); if copy _1 1 2; bb1; drop _3.*; goto 3; bb2; drop _3.*.0; goto 4; bb3; free _3; return; bb4; drop _3.*.1; goto 3", "2>3 _3.*.1"},
		{"it(c: bool, m: &mut D)", "bb0; _0 = (); if copy _1 1 2; bb1; drop _2.*.1; goto 2; bb2; return", "bb0; _0 = (); if copy _1 1 3; bb1; drop _2.*.1; goto 2; bb2; return; bb3; drop _2.*.1; goto 2", "0>2 _2.*.1"},
		{"it(c: bool, m: &mut D)", "bb0; _0 = (); if copy _1 1 2; bb1; drop _2.*; dead _2; goto 2; bb2; return", "bb0; _0 = (); if copy _1 1 2; bb1; drop _2.*; dead _2; goto 2; bb2; return", ""},
		{"it(c: bool, x: i64, n: N)", "4: N; 5: I; bb0; _0 = (); if copy _1 1 2; bb1; _4 = make N; dead _2; dead _3; goto 2; bb2; return", "bb0; _0 = (); if copy _1 1 2; bb1; _4 = make N; dead _2; dead _3; goto 2; bb2; return", ""},
	})
}

// 23.1: locals that no way has set are gone; parameters are there.
func TestBeginning(t *testing.T) {
	const head = "it(c: bool, b: Box<i64>) -> Box<i64>"
	wantMade(t, []made{
		{head, "3: Box<i64>; bb0; drop _0; drop _3; drop _2; _0 = box 1; return", "bb0; drop _2; _0 = box 1; return", ""},
		{head, "3: Box<i64>; bb0; if copy _1 1 2; bb1; _3 = box 1; goto 2; bb2; drop _3; _0 = move _2; return", "bb0; if copy _1 1 2; bb1; _3 = box 1; goto 3; bb2; _0 = move _2; return; bb3; drop _3; goto 2", "1>2 _3"},
		{head, "3: D; bb0; if copy _1 1 2; bb1; _3 = call give -> 2; bb2; drop _3; _0 = move _2; return", "bb0; if copy _1 1 2; bb1; _3 = call give -> 3; bb2; _0 = move _2; return; bb3; drop _3; goto 2", "1>2 _3"},
		{head, "3: D; bb0; _3 = call give -> 1; bb1; drop _3.0; _0 = move _2; return", "bb0; _3 = call give -> 1; bb1; drop _3.0; _0 = move _2; return", ""},
	})
}

// 23.1: where an enum's payload, or a part of it, is gone behind a block, all of the enum is gone at the next one's beginning.
func TestEnumsWhole(t *testing.T) {
	const head = "it(c: bool, x: X, b: Box<X>, p: P)"
	wantMade(t, []made{
		{head, "bb0; _0 = (); drop _2.@1; goto 1; bb1; drop _2; return", "bb0; _0 = (); drop _2.@1; goto 1; bb1; return", ""},
		{head, "bb0; _0 = (); drop _2.@2.*.1; goto 1; bb1; drop _2; return", "bb0; _0 = (); drop _2.@2.*.1; goto 2; bb1; return; bb2; free _2.@2; goto 1", "0>1 _2.@2"},
		{head, "bb0; _0 = (); drop _2.@4.1; goto 1; bb1; drop _2; drop _2.@4.0; return", "bb0; _0 = (); drop _2.@4.1; goto 2; bb1; return; bb2; drop _2.@4.0; goto 1", "0>1 _2.@4.0"},
		{head, "bb0; _0 = (); drop _2.@3.@2; goto 1; bb1; drop _2.@3; return", "bb0; _0 = (); drop _2.@3.@2; goto 1; bb1; return", ""},
		{head, "bb0; _0 = (); drop _2.@3.@2.1; goto 1; bb1; drop _2.@4; return", "bb0; _0 = (); drop _2.@3.@2.1; goto 1; bb1; return", ""},
		{head, "bb0; _0 = (); drop _3.*.@1; goto 1; bb1; drop _3; return", "bb0; _0 = (); drop _3.*.@1; goto 1; bb1; free _3; return", ""},
		{head, "bb0; _0 = (); drop _4.1.@2; goto 1; bb1; drop _4; return", "bb0; _0 = (); drop _4.1.@2; goto 1; bb1; drop _4.0; drop _4.3; drop _4.4; return", ""},
		{head, "bb0; _0 = (); drop _4.4.*.@1.*.@1; goto 1; bb1; drop _4; return", "bb0; _0 = (); drop _4.4.*.@1.*.@1; goto 2; bb1; drop _4.0; drop _4.1; drop _4.3; free _4.4; return; bb2; free _4.4.*.@1; goto 1", "0>1 _4.4.*.@1"},
		{head, "bb0; _0 = (); if copy _1 1 2; bb1; drop _2.@1; goto 3; bb2; goto 3; bb3; drop _2; return", "bb0; _0 = (); if copy _1 1 2; bb1; drop _2.@1; goto 3; bb2; goto 4; bb3; return; bb4; drop _2; goto 3", "2>3 _2"},
		{head, "bb0; _0 = (); if copy _1 1 2; bb1; drop _2.@1; goto 3; bb2; drop _2.@4.0; goto 3; bb3; drop _2; return", "bb0; _0 = (); if copy _1 1 2; bb1; drop _2.@1; goto 3; bb2; drop _2.@4.0; goto 4; bb3; return; bb4; drop _2.@4.1; goto 3", "2>3 _2.@4.1"},
		{head, "bb0; _0 = (); if copy _1 1 2; bb1; drop _3.*.@2; goto 3; bb2; goto 3; bb3; drop _3; return", "bb0; _0 = (); if copy _1 1 2; bb1; drop _3.*.@2; goto 3; bb2; goto 4; bb3; free _3; return; bb4; drop _3.*; goto 3", "2>3 _3.*"},
		{head, "bb0; _0 = (); drop _2.@2.*; drop _2.@4.0; goto 1; bb1; return", "bb0; _0 = (); drop _2.@2.*; drop _2.@4.0; goto 2; bb1; return; bb2; free _2.@2; goto 1", "0>1 _2.@2"},
		{head, "5: Box<i64>; bb0; _0 = (); _5 = move _2.@1; _2.@1 = move _5; goto 1; bb1; drop _2; return", "bb0; _0 = (); _5 = move _2.@1; _2.@1 = move _5; goto 1; bb1; drop _2; return", ""},
		{head, "5: Box<i64>; bb0; _0 = (); _5 = move _2.@1; goto 1; bb1; _2 = pick X 1 move _5; goto 2; bb2; drop _2; return", "bb0; _0 = (); _5 = move _2.@1; goto 1; bb1; _2 = pick X 1 move _5; goto 2; bb2; drop _2; return", ""},
		{"it(m: &mut X)", "bb0; _0 = (); drop _1.*.@2; goto 1; bb1; drop _1.*; return", "bb0; _0 = (); drop _1.*.@2; goto 1; bb1; return", ""},
		{"it(z: Z)", "bb0; _0 = (); drop _1.@0; goto 1; bb1; drop _1.@1; drop _1; return", "bb0; _0 = (); drop _1.@0; goto 1; bb1; return", ""},
		{"it(y: Y)", "bb0; _0 = (); drop _1.@0; goto 1; bb1; drop _1; return", "bb0; _0 = (); drop _1.@0; goto 1; bb1; return", ""},
		{"it(y: Y)", "bb0; _0 = (); drop _1.@0.@1; goto 1; bb1; drop _1.@0; return", "bb0; _0 = (); drop _1.@0.@1; goto 1; bb1; return", ""},
		{"it(y: Box<Y>)", "bb0; _0 = (); drop _1.*.@0.@4.0; goto 1; bb1; drop _1; return", "bb0; _0 = (); drop _1.*.@0.@4.0; goto 2; bb1; free _1; return; bb2; drop _1.*.@0.@4.1; goto 1", "0>1 _1.*.@0.@4.1"},
	})
}

// 23.1: rings: what a round drops is gone at the ring's head; an edge that leads back to its own block.
func TestRings(t *testing.T) {
	const head = "it(c: bool, b: Box<i64>, d: D)"
	wantMade(t, []made{
		{head, "bb0; _0 = (); goto 1; bb1; if copy _1 2 3; bb2; drop _2; goto 1; bb3; drop _2; return", "bb0; _0 = (); goto 4; bb1; if copy _1 2 3; bb2; goto 1; bb3; return; bb4; drop _2; goto 1", "0>1 _2"},
		{head, "bb0; _0 = (); goto 1; bb1; if copy _1 2 3; bb2; drop _2; _2 = box 1; goto 1; bb3; drop _2; return", "bb0; _0 = (); goto 1; bb1; if copy _1 2 3; bb2; drop _2; _2 = box 1; goto 1; bb3; drop _2; return", ""},
		{head, "bb0; _0 = (); goto 1; bb1; drop _3.0; if copy _1 1 2; bb2; drop _3; return", "bb0; _0 = (); goto 3; bb1; if copy _1 1 2; bb2; drop _3.1; return; bb3; drop _3.0; goto 1", "0>1 _3.0"},
		{head, "4: Box<i64>; bb0; _0 = (); _4 = box 1; goto 1; bb1; dead _4; _4 = box 2; if copy _1 1 2; bb2; return", "bb0; _0 = (); _4 = box 1; goto 1; bb1; dead _4; _4 = box 2; if copy _1 1 2; bb2; return", ""},
		{head, "4: Box<i64>; bb0; _0 = (); _4 = box 1; goto 0", "bb0; _0 = (); _4 = box 1; goto 1; bb1; drop _4; goto 0", "0>0 _4"},
		{head + " -> Box<i64>", "bb0; _0 = move _2; if copy _1 0 0", "bb0; _0 = move _2; if copy _1 1 1; bb1; drop _0; goto 0", "0>0 _0"},
		{head, "4: Box<i64>; bb0; _0 = (); goto 1; bb1; switch 3 1 1 2 2 1; bb2; _4 = box 2; drop _2; switch 3 1 1 2 2 3; bb3; return", "bb0; _0 = (); goto 4; bb1; switch 3 1 1 2 2 1; bb2; _4 = box 2; switch 3 1 5 2 6 3; bb3; return; bb4; drop _2; goto 1; bb5; drop _4; goto 1; bb6; drop _4; goto 2", "0>1 _2; 2>1 _4; 2>2 _4"},
	})
}

// 23.1: several edges from one block, and to one block; a block that stands twice among those behind an end.
func TestManyEdges(t *testing.T) {
	const head = "it(c: bool, b: Box<i64>, d: D)"
	wantMade(t, []made{
		{head, "bb0; _0 = (); switch 7 1 1 5 2 6 1 3; bb1; drop _2; goto 4; bb2; drop _3; goto 4; bb3; goto 4; bb4; return", "bb0; _0 = (); switch 7 1 1 5 2 6 1 3; bb1; drop _2; goto 5; bb2; drop _3; goto 6; bb3; goto 7; bb4; return; bb5; drop _3; goto 4; bb6; drop _2; goto 4; bb7; drop _2; drop _3; goto 4", "1>4 _3; 2>4 _2; 3>4 _2 _3"},
		{head, "bb0; _0 = (); switch 7 1 3 2 2 4 3 1; bb1; drop _2; goto 2; bb2; drop _3.1; goto 3; bb3; return", "bb0; _0 = (); switch 7 1 5 2 4 4 5 1; bb1; drop _2; goto 2; bb2; drop _3.1; goto 3; bb3; return; bb4; drop _2; goto 2; bb5; drop _2; drop _3.1; goto 3", "0>2 _2; 0>3 _2 _3.1"},
		{head, "bb0; _0 = (); if copy _1 1 1; bb1; if copy _1 3 2; bb2; drop _3; drop _2; goto 3; bb3; return", "bb0; _0 = (); if copy _1 1 1; bb1; if copy _1 4 2; bb2; drop _3; drop _2; goto 3; bb3; return; bb4; drop _2; drop _3; goto 3", "1>3 _2 _3"},
		{head, "bb0; _0 = (); if copy _1 1 2; bb1; drop _2; goto 2; bb2; if copy _1 3 4; bb3; drop _3; goto 4; bb4; return", "bb0; _0 = (); if copy _1 1 5; bb1; drop _2; goto 2; bb2; if copy _1 3 6; bb3; drop _3; goto 4; bb4; return; bb5; drop _2; goto 2; bb6; drop _3; goto 4", "0>2 _2; 2>4 _3"},
		{head, "bb0; _0 = (); if copy _1 1 2; bb1; drop _2; goto 3; bb2; _2 = call id move _2 -> 3; bb3; return", "bb0; _0 = (); if copy _1 1 2; bb1; drop _2; goto 3; bb2; _2 = call id move _2 -> 4; bb3; return; bb4; drop _2; goto 3", "2>3 _2"},
		{head, "4: D; bb0; _0 = (); switch 2 2 1 2; bb1; _0 = call take move _3 -> 2; bb2; drop _3; return", "bb0; _0 = (); switch 2 2 1 3; bb1; _0 = call take move _3 -> 2; bb2; return; bb3; drop _3; goto 2", "0>2 _3"},
	})
}

// 23.1: in blocks to which no way leads drops are left out, and nothing is done on edges; all else stays, frees everywhere.
func TestNoWay(t *testing.T) {
	const head = "it(c: bool, b: Box<i64>, d: D)"
	wantMade(t, []made{
		{head, "bb0; _0 = (); goto 2; bb1; drop _2; free _2; drop _3.0; _2 = box 1; dead _3; goto 2; bb2; drop _2; drop _3; return; bb3; drop _3; goto 3", "bb0; _0 = (); goto 2; bb1; free _2; _2 = box 1; dead _3; goto 2; bb2; drop _2; drop _3; return; bb3; goto 3", ""},
		{head, "bb0; _0 = (); return; bb1; drop _2; if copy _1 1 0", "bb0; _0 = (); return; bb1; if copy _1 1 0", ""},
		{head, "bb0; _0 = (); free _2; free _2; free _3.0; free _3.1; drop _3; return", "bb0; _0 = (); free _2; free _2; free _3.0; free _3.1; return", ""},
		{head, "4: Box<D>; bb0; free _4; _4 = box move _3; free _4; live _4; free _4; dead _4; drop _2; _0 = (); return", "bb0; free _4; _4 = box move _3; free _4; live _4; free _4; dead _4; drop _2; _0 = (); return", ""},
		{head, "bb0; drop _2; panic 103; bb1; drop _3; panic 101", "bb0; drop _2; panic 103; bb1; panic 101", ""},
	})
}

// 23.1: drops stand where the drop stood; what is done on an edge, and the way on, where the end stands.
func TestPlacesInTheSource(t *testing.T) {
	m := programOf(t, "it(c: bool, d: D, e: Box<D>)", "bb0; _0 = (); drop _2.0; if copy _1 1 2; bb1; drop _3.*.1; drop _3; goto 2; bb2; drop _2; drop _3; return")
	block := m.Fns[0].Blocks
	block[0].Term.At, block[0].Term.Till = -5, 1<<60
	block[1].Stmts[1].From, block[1].Stmts[1].To = 70, 71
	block[2].Stmts[0].From, block[2].Stmts[0].To = 80, -1<<63
	x, e := Make(m)
	want := "bb0; _0 = (); drop _2.0; if copy _1 1 3; bb1; drop _3.*.1; drop _3.*.0; free _3; goto 2; bb2; drop _2.1; return; bb3; drop _3; goto 2"
	places := "0-1 1-2 -5-1152921504606846976; 3-4 70-71 70-71 5-6; 80--9223372036854775808 8-9; -5-1152921504606846976 -5-1152921504606846976; "
	if e != api.OK || rowOf(x, 0) != want || placesText(x.Fns[0]) != places {
		t.Errorf("%v\n%s\n%s", e, rowOf(x, 0), placesText(x.Fns[0]))
	}
}

// 23.1: all functions are changed; names, locals and items stay; the one that is asked for has its own edges.
func TestAllFunctions(t *testing.T) {
	b := mirtest.Bench{Types: ofTypes, Helpers: [][2]string{
		{"f(c: bool, b: Box<i64>)", "bb0; _0 = (); if copy _1 1 2; bb1; drop _2; goto 2; bb2; return"},
		{"g(d: D)", "bb0; drop _1.0; drop _1; _0 = (); return"},
		{"main()", "bb0; _0 = (); return"},
	}}
	it, _ := b.Items("it(c: bool, s: S)")
	m, right := b.Program(it, mirtest.Lines("3: Box<i64>; bb0; _0 = (); if copy _1 1 2; bb1; _3 = move _2.1; drop _3; goto 2; bb2; drop _2; return"))
	for k := range m.Fns {
		for l := range m.Fns[k].Locals {
			m.Fns[k].Locals[l].Name, m.Fns[k].Locals[l].Mut = strings.Repeat("x", l), l%2 == 0
		}
	}
	x, e := Make(m)
	if !right || e != api.OK || mir.Check(x) != api.OK || len(x.Fns) != 4 {
		t.Fatal(right, e)
	}
	wants := []string{"bb0; _0 = (); if copy _1 1 3; bb1; _3 = move _2.1; drop _3; goto 2; bb2; return; bb3; drop _2.1; goto 2", "bb0; _0 = (); if copy _1 1 3; bb1; drop _2; goto 2; bb2; return; bb3; drop _2; goto 2", "bb0; drop _1.0; drop _1.1; _0 = (); return", "bb0; _0 = (); return"}
	edges := []string{"0>2 _2.1", "0>2 _2", "", ""}
	for f := range x.Fns {
		l, e := Edges(m, f)
		if rowOf(x, f) != wants[f] || e != api.OK || edgesText(l) != edges[f] {
			t.Errorf("%d: %s | %s %v", f, rowOf(x, f), edgesText(l), e)
		}
		if g := x.Fns[f]; g.Name != m.Fns[f].Name || g.Params != m.Fns[f].Params || !slices.Equal(g.Locals, m.Fns[f].Locals) {
			t.Error(f, g.Name, g.Params, g.Locals)
		}
	}
	only := m
	only.Fns, x.Fns = nil, nil
	if !mir.Same(only, x) {
		t.Error("other items")
	}
}
