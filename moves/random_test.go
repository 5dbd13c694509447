package moves

import (
	"math/rand"
	"slices"
	"testing"

	"patina/api"
	"patina/build"
	"patina/check"
	"patina/mir"
	"patina/mirtest"
	"patina/parse"
)

func textOf(m api.Mir) string {
	s := ""
	for f := range m.Fns {
		text, _ := mir.Text(m, f)
		s += text
	}
	return s
}

// wantAsTheModel holds all faces to the model, at points of all functions that have not too many ways, and tells of how many.
func wantAsTheModel(t *testing.T, r *rand.Rand, m api.Mir) int {
	t.Helper()
	compared := 0
	for f, fn := range m.Fns {
		at, few := ways(fn)
		if !few {
			continue
		}
		compared++
		var reached []int
		for b, block := range fn.Blocks {
			if at[b] != nil {
				reached = append(reached, b)
			}
			points := pointsOf(block, at[b])
			for i := range len(block.Stmts) + 1 {
				if r.Intn(6) > 0 {
					continue
				}
				may, e := Maybe(m, f, b, i)
				must, g := Sure(m, f, b, i)
				places, moved, h := Uses(m, f, b, i)
				if e != api.OK || g != api.OK || h != api.OK || mirtest.PlaceTexts(may) != mirtest.PlaceTexts(maybe(points[i])) || mirtest.PlaceTexts(must) != mirtest.PlaceTexts(sure(points[i])) || usesText(places, moved) != pointOf(block, i).uses() {
					t.Fatalf("%d.%d.%d: %v | %v, not %v | %v\n%s", f, b, i, mirtest.PlaceTexts(may), mirtest.PlaceTexts(must), mirtest.PlaceTexts(maybe(points[i])), mirtest.PlaceTexts(sure(points[i])), textOf(m))
				}
				wantLeast(t, may, must)
			}
		}
		if l, e := Reached(m, f); e != api.OK || !slices.Equal(l, reached) {
			t.Fatal(l, e, reached)
		}
	}
	if want := modelCheck(m); want.Code >= 0 && want != Check(m) {
		t.Fatalf("%v, not %v\n%s", Check(m), want, textOf(m))
	}
	return compared
}

// wantLeast holds sets to 22.4, and to their order: none is within another one, and what is surely gone may be gone.
func wantLeast(t *testing.T, may, must []api.Place) {
	t.Helper()
	for _, l := range [][]api.Place{may, must} {
		for a, p := range l {
			for b, q := range l {
				if a != b && Within(p, q) {
					t.Fatal(p, q)
				}
			}
		}
	}
	for _, p := range must {
		if !slices.ContainsFunc(may, func(q api.Place) bool { return Within(p, q) }) {
			t.Fatal(p, may)
		}
	}
}

// 22.1 to 22.4: MIR that is made at random, and right or nearly so, on all its ways.
func TestMade(t *testing.T) {
	r := rand.New(rand.NewSource(221))
	codes, compared := map[api.Errno]int{}, 0
	for k := range 100 {
		mk := &mirtest.Maker{Choose: r.Intn, Plain: k%4 == 0}
		m := mk.Program()
		codes[Check(m).Code]++
		compared += wantAsTheModel(t, r, m)
		mk.Repair(m, Check)
		if d := modelCheck(m); d.Code > 0 {
			t.Fatalf("%v\n%s", d, textOf(m))
		}
		compared += wantAsTheModel(t, r, m)
	}
	if codes[api.ErrMoved] < 30 || codes[api.ErrMoveOut] < 5 || compared < 800 {
		t.Error(codes, compared)
	}
}

// 22.5: MIR whose types are all copied, and whose locals are set ahead of their uses, has nothing wrong; where one is not set, it may have.
func TestCopied(t *testing.T) {
	r := rand.New(rand.NewSource(225))
	wrong := 0
	for range 300 {
		m := (&mirtest.Maker{Choose: r.Intn, Copied: true}).Program()
		if d := Check(m); d != (api.Diag{}) {
			t.Fatalf("%v\n%s", d, textOf(m))
		}
		f := &m.Fns[r.Intn(len(m.Fns))]
		f.Blocks[0].Stmts = slices.Delete(f.Blocks[0].Stmts, 0, min(2, len(f.Blocks[0].Stmts)))
		d := Check(m)
		if d.Code == api.ErrMoved {
			wrong++
		}
		if want := modelCheck(m); want.Code >= 0 && d != want {
			t.Fatal(d, want)
		}
	}
	if wrong < 50 {
		t.Error(wrong)
	}
}

// 22.1: sources, with the text at which they are wrong; MIR of build has its places.
func TestSources(t *testing.T) {
	for _, c := range []struct {
		body, at string
		code     api.Errno
	}{
		{"let b = Box::new(1); let c = b; let d = b;", "b;", api.ErrMoved}, {"let b = Box::new(1); let c = b; print(*b);", "*b", api.ErrMoved}, {"let d = *r;", "*r;", api.ErrMoveOut}, {"let b = Box::new(1); if c { let d = b; }", "", 0}, {"let b = Box::new(1); if c { let d = b; } print(*b);", "*b", api.ErrMoved}, {"let b = Box::new(1); if c { let d = b; } else { print(*b); }", "", 0}, {"let mut b = Box::new(1); while c { let d = b; b = Box::new(2); }", "", 0}, {"let b = Box::new(1); while c { let d = b; break; }", "", 0}, {"let b = Box::new(1); while c { let d = b; continue; }", "b; c", api.ErrMoved}, {"let b = Box::new(1); while c { let d = b; if c { return; } }", "b; if", api.ErrMoved},
		{"match e { E::C(s) => { }, _ => { } } match e { E::A => { }, _ => { } }", "E::A => { }, _", api.ErrMoved}, {"match e { E::B(x) => print(x), _ => { } } match e { E::A => { }, _ => { } }", "", 0}, {"match &e { E::C(s) => print(*s.b), _ => { } } let d = e;", "", 0}, {"match e { E::C(s) => { }, _ => { } } let d = e;", "e;", api.ErrMoved}, {"match e { _ => { } } let d = e;", "", 0}, {"match e { x => { } } let d = e;", "e;", api.ErrMoved}, {"let r2 = &e; let d = e; let r3 = &e;", "&e;", api.ErrMoved}, {"let s = S { a: 1, b: k }; let x = s.b; let y = s.a; let z = s.b;", "s.b;", api.ErrMoved}, {"let mut s = S { a: 1, b: k }; let x = s.b; s.b = x; let z = s;", "", 0}, {"let b = Box::new(k); let x = *b; let y = *b;", "*b;", api.ErrMoved}, {"let s = m.b;", "m.b", api.ErrMoveOut}, {"let s = *m;", "*m", api.ErrMoveOut}, {"let s = m.a; m.b = k; *m = S { a: 1, b: Box::new(1) };", "", 0}, {"let d = k; let f = m.b;", "m.b", api.ErrMoveOut}, {"match m { S => { } }", "", 0},
	} {
		source := "struct S { a: i64, b: Box<i64> } enum E { A, B(i64), C(S) } fn f(c: bool, r: &Box<i64>, k: Box<i64>, e: E, m: &mut S) { " + c.body + " } fn main() { }"
		tree, d := parse.Parse(source)
		u, g := check.Of(tree)
		m, h := build.Of(u)
		if d.Code != api.OK || g.Code != api.OK || h.Code != api.OK {
			t.Fatal(c.body, d, g, h)
		}
		got := Check(m)
		if got.Code != c.code || c.code == 0 && got != (api.Diag{}) || c.code != 0 && source[got.From:min(got.From+len(c.at), len(source))] != c.at {
			t.Errorf("%s: %v %s", c.body, got, source[got.From:])
		}
		if want := modelCheck(m); want != got {
			t.Errorf("%s: %v, not %v", c.body, got, want)
		}
	}
}
