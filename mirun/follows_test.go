package mirun

import (
	"bytes"
	"math/rand"
	"slices"
	"testing"

	"patina/api"
	"patina/build"
	"patina/check"
	"patina/eval"
	"patina/mir"
	"patina/mirtest"
	"patina/moves"
	"patina/parse"
)

// 21.3: a run is the same each time; with more fuel one that ended ends the same, one that did not has printed a beginning.
func TestFuel(t *testing.T) {
	r := rand.New(rand.NewSource(213))
	ended := 0
	for range 150 {
		mk := &mirtest.Maker{Choose: r.Intn}
		m := mk.Program()
		mk.Repair(m, moves.Check)
		last, _ := Run(m, []byte("AB"), 0)
		for fuel := 1; fuel < 400; fuel += 1 + r.Intn(12) {
			o, _ := Run(m, []byte("AB"), fuel)
			again, _ := Run(m, []byte("AB"), fuel)
			if !sameOutcome(o, again) || last.End != api.EndFuel && !sameOutcome(o, last) || !bytes.HasPrefix(o.Out, last.Out) || o.Steps < last.Steps || o.Steps > fuel {
				t.Fatalf("%d: %v %v %v\n%s", fuel, last, o, again, textOf(m))
			}
			last = o
		}
		if last.End != api.EndFuel {
			ended++
		}
	}
	if ended < 50 {
		t.Error(ended)
	}
}

// sources are of every kind, behind these items.
const sourceItems = "struct S { a: i64, b: Box<i64> } struct P { s: S, q: bool } enum E { A, B(i64), C(S), D(Box<E>) } enum L { End, More(Cell) } struct Cell { v: i64, next: Box<L> } " +
	"fn sum(l: &L) -> i64 { match l { L::End => 0, L::More(c) => c.v + sum(&*c.next) } } fn push(l: L, v: i64) -> L { L::More(Cell { v: v, next: Box::new(l) }) } fn fact(n: i64) -> i64 { if n < 2 { return 1; } n * fact(n - 1) } " +
	"fn eat(b: Box<i64>) -> i64 { *b } fn change(r: &mut i64) { *r = *r * 2; } fn first(s: &S) -> &i64 { &s.a } fn deep(n: i64) { if n > 0 { deep(n - 1); print(n); } } fn twice(s: &mut S) -> &mut i64 { s.a = s.a * 2; &mut s.a } "

func sources() []string {
	return []string{
		"", "print(6 * 7);", "let mut i = 0; while i < 3 { print(i); i = i + 1; }", "print(1); print(1 / read());", "print(1 % (read() - 65));", "let mut i = 9223372036854775807; i = i + 1; print(i);", "print(-(-9223372036854775807 - 1));", "panic();", "print(1); panic(); print(2);",
		"let b = Box::new(1); let c = b; print(*c);", "let b = Box::new(Box::new(3)); print(**b); let c = *b; print(*c);", "let mut b = Box::new(1); b = Box::new(2); *b = *b + 1; print(*b);", "let s = S { b: Box::new(1), a: 2 }; let x = s.b; print(s.a + *x);", "let mut s = S { a: 1, b: Box::new(2) }; s.b = Box::new(s.a); print(*s.b); s = S { a: 5, b: s.b }; print(s.a + *s.b);",
		"let mut s = S { a: 3, b: Box::new(2) }; *twice(&mut s) = *twice(&mut s) + 1; print(s.a); print(*first(&s));", "let mut a = 1; let r = &mut a; *r = 2; print(a);", "let mut a = 4; change(&mut a); let r = &a; print(*r + a);", "let e = E::C(S { a: 1, b: Box::new(7) }); match e { E::A => print(0), E::B(x) => print(x), E::C(s) => print(*s.b), E::D(b) => { } }", "let e = E::B(5); match &e { E::B(x) => print(*x), _ => panic(), }; match e { E::B(4) => print(4), E::B(n) => print(n), _ => { } }", "let mut e = E::B(5); match &mut e { E::B(x) => { *x = 6; }, _ => panic() } match e { E::B(6) => print(1), _ => print(2) }", "match E::D(Box::new(E::A)) { E::D(b) => match *b { E::A => print(1), _ => print(2) }, _ => print(3) }",
		"match read() { 65 => print(1), -1 => print(2), _ => print(3) }", "match read() == 65 { true => print(1), false => print(2) }", "match 3 { 1 => print(1), 2 => print(2), x => print(x) }", "match 3 { 1 => print(1), 2 => print(2) }", "let l = push(push(push(L::End, 1), 2), 3); print(sum(&l)); print(sum(&l));", "let mut l = L::End; let mut i = 0; while i < 20 { l = push(l, i); i = i + 1; } print(sum(&l));", "print(fact(20)); print(fact(21));", "deep(5);", "deep(998);", "print(1); deep(999); print(2);", "deep(2000);",
		"let mut i = 0; while true { i = i + 1; if i == 3 { continue; } if i > 5 { break; } let b = Box::new(i); print(*b); }", "let mut i = 0; while i < 2 { let b = Box::new(i); if read() == 65 { return; } i = i + eat(b); print(i); i = i + 1; }", "while true { let s = S { a: read(), b: Box::new(1) }; if s.a < 0 { break; } print(s.a); }", "print({ let x = 1; let y = Box::new(x); x + *y });", "let x = if read() == 65 { Box::new(1) } else { Box::new(2) }; print(*x);", "if read() == 65 && read() == 66 { print(1); } if read() == 65 || { print(9); true } { print(2); }", "let p = P { s: S { a: 1, b: Box::new(2) }, q: true }; let P2 = &p; print(P2.s.a + *P2.s.b); if P2.q { print(0); }", "let b = Box::new(P { s: S { a: 1, b: Box::new(2) }, q: false }); print(b.s.a); let s = b.s; print(*s.b); print(s.a);", "let b = Box::new(1); if read() == 65 { let c = b; print(*c); }", "Box::new(Box::new(1)); S { a: 1, b: Box::new(2) }; E::A; 1; ();", "let u = (); let v = Box::new(u); *v; let w = *v; w", "if read() == 65 { main(); print(1); }", "print(0 - eat(Box::new(3)) * 2 - 1); print(7 / -2); print(-7 % 3);",
		"let b = Box::new(1); let c = b; print(*b);", "let b = Box::new(1); eat(b); eat(b);", "let mut a = Box::new(1); let r = &a; a = Box::new(2); print(**r);", "let r = { let x = 1; &x }; print(1); print(*r);", "let s = S { a: 1, b: Box::new(1) }; let t = s.b; let u = s;",
	}
}

// 21.4: where the tree's run ends, so does that of its MIR, and the other way round, with the same Code and Out.
func TestAsTheTree(t *testing.T) {
	ends := map[int]int{}
	for _, body := range sources() {
		tree, d := parse.Parse(sourceItems + "fn main() { " + body + " }")
		u, g := check.Of(tree)
		m, h := build.Of(u)
		if d.Code != api.OK || g.Code != api.OK || h.Code != api.OK {
			t.Fatal(body, d, g, h)
		}
		for _, in := range []string{"", "A", "AB", "B\x00A", "ABAB"} {
			a, _ := eval.Run(u, []byte(in), 1000000)
			b, e := Run(m, []byte(in), 1000000)
			if e != api.OK || a.End != b.End || a.Code != b.Code || a.End == api.EndDone && !bytes.Equal(a.Out, b.Out) {
				t.Errorf("%s: %q: %v, not %v", body, in, b, a)
			}
			_, model := modelRun(m, "main", nil, []byte(in), 1000000)
			if !sameOutcome(b, model) {
				t.Errorf("%s: %q: %v, not %v as the model", body, in, b, model)
			}
			ends[b.End*1000+b.Code]++
		}
	}
	for _, end := range []int{1000, 1101, 1102, 1103, 2000, 3000} {
		if ends[end] == 0 {
			t.Error(end, ends)
		}
	}
}

// isPlain tells whether MIR is of 21.5's kind.
func isPlain(m api.Mir) bool {
	for _, f := range m.Fns {
		if slices.ContainsFunc(f.Locals, func(l api.Local) bool { return l.Type[0] == '&' }) {
			return false
		}
		for _, b := range f.Blocks {
			l := []api.Place{b.Term.Place, b.Term.Arg.Place}
			for _, o := range b.Term.Args {
				l = append(l, o.Place)
			}
			for _, s := range b.Stmts {
				if s.Kind != api.MSet && (s.Kind != api.MDrop || slices.Contains(s.Place.Path, -1)) {
					return false
				}
				l = append(l, s.Place, s.R.Place)
				for _, o := range s.R.Args {
					l = append(l, o.Place)
				}
			}
			if slices.ContainsFunc(l, func(p api.Place) bool { return slices.ContainsFunc(p.Path, func(k int) bool { return k < -1 }) }) {
				return false
			}
		}
	}
	return true
}

// 21.5: MIR without references and such is never undefined, where moves finds nothing wrong.
func TestPlainIsDefined(t *testing.T) {
	r := rand.New(rand.NewSource(215))
	ends := map[int]int{}
	for range 500 {
		mk := &mirtest.Maker{Choose: r.Intn, Plain: true}
		m := mk.Program()
		before, _ := Run(m, []byte("\x00\x01A"), 2000)
		mk.Repair(m, moves.Check)
		if mir.Check(m) != api.OK || !isPlain(m) {
			t.Fatal("another kind")
		}
		for _, fuel := range []int{r.Intn(100), 2000} {
			o, e := Run(m, []byte("\x00\x01A"), fuel)
			if e != api.OK || o.End == api.EndUndef {
				t.Fatalf("%v %v\n%s", o, e, textOf(m))
			}
			ends[o.End]++
		}
		ends[10+before.End]++
	}
	if ends[api.EndDone] < 100 || ends[10+api.EndUndef] < 100 {
		t.Error(ends)
	}
}
