package loans

import (
	"slices"
	"strconv"
	"strings"
	"testing"

	"patina/api"
	"patina/build"
	"patina/check"
	"patina/drops"
	"patina/moves"
	"patina/parse"
)

// wantChecks holds rows to what is wrong with them: at the statement or end that is marked with ! a loan is broken, with ? what it lends is gone; without a mark nothing is wrong.
func wantChecks(t *testing.T, rows ...string) {
	t.Helper()
	for _, row := range rows {
		m, at := rowOf(t, row)
		want := api.Diag{}
		if at >= 0 {
			want = api.Diag{Code: api.ErrBorrow, From: at, To: at + 1}
		}
		if strings.Contains(row, "?") {
			want.Code = api.ErrGone
		}
		if d := Check(m); d != want {
			t.Errorf("%s: %v, not %v", row, d, want)
		}
		if d := modelOf(m.Items, m.Fns[0]).firstError(); d != want {
			t.Errorf("%s: the model says %v, not %v", row, d, want)
		}
	}
}

// 24.1: a loan that is alive is not invalidated; one that is not alive may be.
func TestNothingWrong(t *testing.T) {
	wantChecks(t,
		"_13 = mut _1; _13.* = 2; _1 = 3; return", "_13 = mut _1; _1 = 2; _10 = copy _1; drop _3; dead _1; panic 101", "_11 = ref _1; _12 = ref _1; _10 = copy _1 + copy _11.*; _10 = copy _12.*", "_19 = mut _4.0; _4.1 = box 2; _10 = copy _4.1.*; _19.* = box 3; drop _4", "_13 = mut _1; _14 = mut _13.*; _14.* = 1; _13.* = 2; _1 = 3", "_13 = mut _1; _14 = mut _13.*; _13 = move _14; _13.* = 1; _1 = 2", "_14 = mut _1; goto 1; bb1; _13 = mut _14.*; _14 = move _13; _14.* = 1; if copy _2 1 2; bb2; panic 101", "_11 = ref _1; _11 = ref _10; _1 = 2; _30 = copy _11.* < 1", "_0 = ref _1; panic 101", "_0 = ref _8.*.0.*; dead _8; return", "_13 = mut _8.*.0.*; dead _8; _13.* = 2", "_0 = ref _3.*; dead _3; live _3; return", "_14 = mut _13.*; dead _13; _14.* = 1", "if copy _2 1 2; bb1; _11 = ref _1; _10 = copy _11.*; goto 3; bb2; _1 = 2; goto 3; bb3; _1 = 3; return",
		"_11 = call first copy _7 copy _12 -> 1; bb1; _1 = 1; _10 = copy _11.*", "_11 = ref _1; _10 = call give -> 1; bb1; _10 = copy _11.*; _1 = 2", "_18 = ref _28.*.0; _28 = box move _4; _10 = copy _18.*.*", "_21 = ref _5; _10 = tag _5; _10 = tag _21.*", "_17 = ref _5.@2; _10 = tag _5; _10 = copy _17.*.0", "_22 = mut _5; _10 = tag _22.*; _10 = tag _5",
	)
}

// 24.1: ErrBorrow by each kind of use, while the loan is alive.
func TestBorrowed(t *testing.T) {
	wantChecks(t,
		"_13 = mut _1; !_1 = 2; _13.* = 3", "_13 = mut _1; !_10 = copy _1; _13.* = 3", "_13 = mut _1; !_11 = ref _1; _13.* = 3", "_13 = mut _1; !_14 = mut _1; _13.* = 3", "_11 = ref _1; !_14 = mut _1; _10 = copy _11.*", "_11 = ref _1; !_1 = 2; _10 = copy _11.*", "_18 = ref _3; !_23 = move _3; _10 = copy _18.*.*", "_11 = ref _3.*; !_23 = move _3; _10 = copy _11.*", "_22 = mut _5; !_10 = tag _5; _10 = tag _22.*", "_11 = ref _1; !_1 = call give -> 1; bb1; _10 = copy _11.*", "_18 = ref _3; !_20 = call take move _3 copy _7 -> 1; bb1; _10 = copy _18.*.*", "_13 = mut _1; !_20 = call print copy _1 -> 1; bb1; _13.* = 3", "_13 = mut _1; !switch copy _1 1 1 1; bb1; _13.* = 3", "_31 = ref _2; _30 = copy _2; !_2 = false; _30 = copy _31.*", "_13 = mut _1; _14 = mut _13.*; !_13.* = 2; _14.* = 3", "_13 = mut _1; _11 = ref _13.*; !_13.* = 2; _10 = copy _11.*", "_13 = mut _1; _14 = mut _13.*; _14.* = 1; !_1 = 5; _13.* = 2", "_13 = mut _1; _14 = move _13; !_1 = 2; _14.* = 3",
		"_11 = ref _1; _12 = copy _11; _11 = copy _7; !_1 = 2; _10 = copy _12.*", "_11 = ref _1; _12 = ref _10; _0 = call first copy _12 copy _11 -> 1; bb1; !_1 = 2; return", "_11 = ref _1; _12 = ref _10; _0 = call first copy _12 copy _11 -> 1; bb1; !_10 = 2; return", "_16 = mut _4; _11 = call mixed 1 copy _17 move _3 move _16 -> 1; bb1; !_4.0.* = 1; _10 = copy _11.*", "_13 = mut _1; _14 = call keep move _13 -> 1; bb1; !_10 = copy _1; _14.* = 3", "_13 = mut _1; !_10 = copy _1 + copy _13.*", "_0 = ref _1; !_1 = 2; return", "_11 = ref _8.*.0.*; !_8.*.0.* = 2; _10 = copy _11.*", "_11 = ref _10; !_10 = copy _11.*", "_13 = mut _1; _13 = mut _13.*; !_13.* = 1",
	)
}

// 24.1: ErrGone by each kind of end, while the loan is alive.
func TestGone(t *testing.T) {
	wantChecks(t,
		"_11 = ref _1; ?dead _1; _10 = copy _11.*", "_11 = ref _1; ?live _1; _10 = copy _11.*", "_11 = ref _3.*; ?drop _3; _10 = copy _11.*", "_11 = ref _3.*; ?free _3; _10 = copy _11.*", "_11 = ref _28.*.0.*; ?drop _28; _10 = copy _11.*", "_11 = ref _28.*.0.*; free _28; _10 = copy _11.*", "_0 = ref _1; ?dead _1; return", "_13 = mut _1; _14 = mut _13.*; ?dead _1; _14.* = 1", "_13 = mut _1; _14 = mut _13.*; dead _13; ?dead _1; _14.* = 1", "_11 = ref _8.*.0.*; ?drop _8.*.0; _10 = copy _11.*", "_17 = ref _5.@2; ?drop _5; _10 = copy _17.*.0",
		"goto 1; bb1; live _10; _10 = 1; _11 = ref _10; ?dead _10; if copy _2 1 2; bb2; _10 = copy _11.*; return", "_11 = ref _1; if copy _2 1 2; bb1; ?dead _1; goto 2; bb2; _10 = copy _11.*", "goto 1; bb1; _12 = copy _11; _11 = ref _10; ?live _10; _10 = copy _11.*; goto 1",
	)
}

// 24.1: which error is told first; only where a way leads.
func TestFirst(t *testing.T) {
	wantChecks(t,
		"_11 = ref _1; _12 = ref _10; !_10 = 2; dead _1; _10 = copy _11.* + copy _12.*", "_11 = ref _1; _12 = ref _10; ?dead _1; _10 = 2; _10 = copy _11.* + copy _12.*", "_11 = ref _1; _13 = mut _10; !_1 = copy _10; dead _1; _10 = copy _11.* + copy _13.*",
		"goto 2; bb1; !_1 = 2; _10 = copy _11.*; return; bb2; _11 = ref _1; dead _10; goto 1", "goto 2; bb1; !_1 = 2; _10 = copy _11.*; return; bb2; _11 = ref _1; _13 = mut _10; drop _3; _10 = copy _10; _13.* = 2; goto 1", "goto 2; bb1; _10 = copy _11.*; return; bb2; _11 = ref _1; ?dead _1; goto 1", "_11 = ref _1; if copy _2 1 2; bb1; _10 = copy _11.*; return; bb2; _1 = 2; return", "_11 = ref _1; if copy _2 1 2; bb1; !_1 = 2; goto 3; bb2; dead _1; goto 3; bb3; _10 = copy _11.*",
		"return; bb1; _11 = ref _1; _1 = 2; _10 = copy _11.*; return", "_11 = ref _1; goto 2; bb1; _1 = 2; goto 2; bb2; _10 = copy _11.*", "_11 = ref _1; goto 2; bb1; dead _1; _10 = copy _11.*; return; bb2; !_1 = 3; _10 = copy _11.*",
		"_11 = ref _1; goto 1; bb1; !_1 = 2; _10 = copy _11.*; if copy _2 1 2; bb2", "_11 = ref _10; goto 1; bb1; _30 = copy _11.* < 1; _11 = ref _1; !_1 = 2; if copy _2 1 2; bb2", "goto 1; bb1; _1 = 2; _11 = ref _1; _10 = copy _11.*; if copy _2 1 2; bb2", "goto 1; bb1; !_1 = 2; _12 = copy _11; _11 = ref _1; if copy _2 1 2; bb2",
	)
	// The functions in their order.
	m, _ := rowOf(t, "_10 = 1")
	for _, f := range []int{6, 4, 2} {
		m.Fns = slices.Clone(m.Fns)
		fn := &m.Fns[f]
		fn.Locals = append(slices.Clone(fn.Locals), api.Local{Type: "i64"}, api.Local{Type: "&i64"})
		n := api.Place{Local: len(fn.Locals) - 2}
		r := api.Place{Local: n.Local + 1}
		fn.Blocks = []api.MBlock{{Stmts: []api.MStmt{
			{Kind: api.MSet, Place: r, R: api.Rvalue{Kind: api.RRef, Place: n}},
			{Kind: api.MDead, Place: n, From: 100 + f, To: 200 + f},
			{Kind: api.MSet, Place: n, R: api.Rvalue{Kind: api.RUse, Args: []api.Operand{{Kind: api.OCopy, Place: api.Place{Local: r.Local, Path: []int{-1}}}}}},
		}, Term: api.MTerm{Kind: api.TPanic, Code: api.ExitPanic}}}
		if d := Check(m); d != (api.Diag{Code: api.ErrGone, From: 100 + f, To: 200 + f}) {
			t.Error(f, d)
		}
	}
}

// definite is what drops.Make tells of a source that can be typed, and whether its moves are right.
func definite(t *testing.T, source string) (api.Mir, bool) {
	t.Helper()
	tree, d := parse.Parse(source)
	u, e := check.Of(tree)
	m, f := build.Of(u)
	if d.Code != api.OK || e.Code != api.OK || f.Code != api.OK {
		t.Fatal(source, d, e, f)
	}
	made, g := drops.Make(m)
	if g != api.OK {
		t.Fatal(g)
	}
	return made, moves.Check(m).Code == api.OK
}

// 24.1: sources, with the text at which they are wrong.
func TestSources(t *testing.T) {
	const head = "struct S { a: i64, b: Box<i64> } enum L { End, More(Box<L>) } enum E { A, B(i64), C(S) } fn id(r: &mut i64) -> &mut i64 { r } fn one(x: &i64, y: &i64) -> &i64 { x } fn take(s: S) { } "
	for _, c := range []struct {
		body, at string
		code     api.Errno
	}{
		{"let mut a = 1; let r = &mut a; a = 2; print(*r);", "a = 2", api.ErrBorrow}, {"let mut a = 1; let r = &mut a; a = 2;", "", 0}, {"let mut a = 1; let r = &mut a; print(*r); a = 2;", "", 0}, {"let mut a = 1; let r = &mut a; print(a); print(*r);", "a); print", api.ErrBorrow}, {"let mut a = 1; let r = &a; print(a); print(*r);", "", 0}, {"let mut a = 1; let r = &a; a = a + 1; print(*r);", "a = a + 1", api.ErrBorrow}, {"let mut k = 5; let mut r = &k; { let x = 1; r = &x; } print(*r);", "} print", api.ErrGone}, {"let mut k = 5; let mut r = &k; { let x = 1; r = &x; print(*r); } r = &k; print(*r);", "", 0}, {"let mut k = 5; let mut r = &k; { let x = 1; r = &x; }", "", 0},
		{"let mut a = 1; let m = &mut a; let n = &mut *m; *n = 2; *m = 3; a = 4;", "", 0}, {"let mut a = 1; let m = &mut a; let n = &mut *m; *m = 3; *n = 2;", "*m = 3", api.ErrBorrow}, {"let mut a = 1; let m = &mut a; let n = m; *n = 2; a = 3; print(*n);", "a = 3", api.ErrBorrow}, {"let mut a = 1; let r = id(&mut a); *r = 2; print(a);", "", 0}, {"let mut a = 1; let r = id(&mut a); print(a); *r = 2;", "a); *r", api.ErrBorrow}, {"let mut a = 1; let mut b = 2; let r = one(&a, &b); b = 3; print(*r);", "b = 3", api.ErrBorrow}, {"let mut a = 1; let mut b = 2; let r = one(&a, &b); print(*r); b = 3; a = 4;", "", 0},
		{"let mut s = S { a: 1, b: Box::new(2) }; let r = &mut s.a; s.b = Box::new(3); *r = 4;", "", 0}, {"let mut s = S { a: 1, b: Box::new(2) }; let r = &mut s.a; s = S { a: 1, b: Box::new(2) }; *r = 4;", "s = S { a: 1, b: Box::new(2) }; *r", api.ErrGone}, {"let s = S { a: 1, b: Box::new(2) }; let r = &s.b; take(s); print(**r);", "s); print", api.ErrBorrow}, {"let s = S { a: 1, b: Box::new(2) }; let r = &*s.b; let t = s; print(*r);", "s; print", api.ErrBorrow}, {"let s = S { a: 1, b: Box::new(2) }; let r = &s.a; let t = s.b; print(*r);", "", 0}, {"let mut b = Box::new(1); let r = &*b; b = Box::new(2); print(*r);", "b = Box", api.ErrGone}, {"let mut b = Box::new(1); let r = &mut *b; *b = 3; *r = 2;", "*b = 3", api.ErrBorrow}, {"let mut b = Box::new(1); { let r = &mut *b; *r = 2; } *b = 3;", "", 0},
		{"let mut e = E::B(1); let r = &e; match e { E::B(n) => print(n), _ => { } } match r { E::B(n) => print(*n), _ => { } }", "", 0}, {"let mut e = E::B(1); match &mut e { E::B(n) => { *n = 2; }, _ => { } } match e { E::B(n) => print(n), _ => { } }", "", 0}, {"let mut e = E::B(1); let r = &mut e; match e { E::A => { }, _ => { } } *r = E::A;", "E::A => { }, _ => { } } *r", api.ErrBorrow}, {"let mut e = E::B(1); let m = &mut e; match m { E::B(n) => { e = E::A; print(*n); }, _ => { } }", "e = E::A", api.ErrGone},
		{"let mut l = L::End; let mut p = &mut l; let mut go = true; while go { match p { L::End => { go = false; return; }, L::More(n) => { p = &mut **n; } } } l = L::End;", "", 0}, {"let mut l = L::End; let mut p = &mut l; while true { match p { L::End => { return; }, L::More(n) => { p = &mut **n; l = L::End; } } }", "l = L::End; } }", api.ErrGone}, {"let mut a = 1; let mut r = &mut a; let mut i = 0; while i < 3 { r = &mut *r; *r = i; i = i + 1; } a = 3;", "", 0}, {"let mut a = 1; let mut b = 2; let mut r = &a; while b < 9 { print(*r); r = &b; b = b + 1; }", "b = b + 1", api.ErrBorrow}, {"let mut a = 1; let mut b = 2; let mut r = &a; while b < 9 { r = &b; print(*r); b = b + 1; }", "", 0},
	} {
		source := head + "fn main() { " + c.body + " }"
		m, _ := definite(t, source)
		d := Check(m)
		if d.Code != c.code || c.code == 0 && d != (api.Diag{}) || c.code != 0 && source[d.From:min(d.From+len(c.at), len(source))] != c.at {
			t.Errorf("%s: %v %s", c.body, d, source[min(d.From, len(source)):])
		}
	}
}

// 24.1: functions that answer references.
func TestAnswers(t *testing.T) {
	for source, want := range map[string]api.Errno{
		"fn f(x: i64) -> &i64 { &x } fn main() { }": api.ErrGone, "fn f(x: &i64) -> &i64 { x } fn main() { }": api.OK, "fn f(x: &i64) -> &i64 { &*x } fn main() { }": api.OK, "fn f(x: &mut i64) -> &i64 { &*x } fn main() { }": api.OK, "fn f(r: &mut i64) -> &mut i64 { &mut *r } fn main() { }": api.OK, "fn f(b: Box<i64>) -> &i64 { &*b } fn main() { }": api.ErrGone, "fn f(b: &Box<i64>) -> &i64 { &**b } fn main() { }": api.OK, "fn f(x: i64) -> &i64 { let r = &x; return r; } fn main() { }": api.ErrGone, "fn f(x: &i64, c: bool) -> &i64 { let y = 1; if c { return x; } &y } fn main() { }": api.ErrGone, "fn f(x: &i64, c: bool) -> &i64 { let y = 1; if c { return x; } print(y); x } fn main() { }": api.OK,
		"struct S { a: Box<i64> } fn f(s: &mut S) -> &mut i64 { &mut *s.a } fn main() { }": api.OK, "struct S { a: Box<i64> } fn f(s: S) -> &i64 { &*s.a } fn main() { }": api.ErrGone, "struct S { a: Box<i64> } fn f(s: &mut S) -> &mut i64 { let r = &mut *s.a; s.a = Box::new(1); r } fn main() { }": api.ErrGone,
	} {
		m, _ := definite(t, source)
		if d := Check(m); d.Code != want {
			t.Error(source, d)
		}
	}
}

// 24.3: a loan goes on from origin to origin in as many rounds of a ring as it takes; where one of them does not hand it on, it ends there.
func TestManyRounds(t *testing.T) {
	const origins = 200
	for _, missing := range []int{-1, 0, 77, origins - 2} {
		source := "fn main() { let c = true; let a = 1; let mut b = 2; "
		for k := range origins {
			source += "let mut r" + strconv.Itoa(k) + " = &a; "
		}
		source += "while c { "
		for k := range origins - 1 {
			if k != missing {
				source += "if c { r" + strconv.Itoa(k) + " = r" + strconv.Itoa(k+1) + "; } "
			}
		}
		source += "if c { r" + strconv.Itoa(origins-1) + " = &b; } } b = 3; print(*r0); }"
		m, _ := definite(t, source)
		d, at := Check(m), strings.Index(source, "b = 3")
		if missing < 0 && d != (api.Diag{Code: api.ErrBorrow, From: at, To: at + len("b = 3")}) || missing >= 0 && d != (api.Diag{}) {
			t.Error(missing, d, at)
		}
	}
}
