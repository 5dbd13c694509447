package driver

import (
	"bytes"
	"strings"
	"testing"

	"patina/api"
	"patina/build"
	"patina/check"
	"patina/drops"
	"patina/elf"
	"patina/mir"
	"patina/parse"
)

// compiledSource is a source that is taken, and its image.
type compiledSource struct {
	*testing.T
	source string
	image  []byte
	cost   int
}

// taken is such a source, held to 27.1 and 27.3.
func taken(t *testing.T, source string) compiledSource {
	t.Helper()
	c := compiledSource{T: t, source: source}
	var d api.Diag
	if c.image, d = Compile(source); d != (api.Diag{}) {
		t.Fatalf("%v\n%s", d, source)
	}
	if m, d := Front(source); d != (api.Diag{}) || !mir.Same(m, definite(source)) {
		t.Fatalf("%v\n%s", d, source)
	}
	if _, e, at := elf.Read(c.image); e != api.OK {
		t.Fatalf("%v %d\n%s", e, at, source)
	}
	var e api.Errno
	if c.cost, e = Cost(c.image); e != api.OK || c.cost < 1 || c.cost > 1<<40 {
		t.Fatalf("%v %d\n%s", e, c.cost, source)
	}
	return c
}

// definite is what drops makes of a source with which nothing is wrong.
func definite(source string) api.Mir {
	tree, _ := parse.Parse(source)
	u, _ := check.Of(tree)
	m, _ := build.Of(u)
	made, _ := drops.Make(m)
	return made
}

// ends are how sources and their images ended: what ends each, and with which code.
type ends map[[4]int]int

// done are how many sources were done with a code whose images ended with one, too.
func (e ends) done(code, image int) int { return e[[4]int{api.EndDone, code, api.EndDone, image}] }

// ran is what the source does; undefined is nothing of it (27.5).
func (c compiledSource) ran(in []byte, fuel int) api.Outcome {
	c.Helper()
	o, d := Source(c.source, in, fuel)
	if d != (api.Diag{}) || o.End == api.EndUndef {
		c.Fatalf("%v: %v %v\n%s", in, d, o, c.source)
	}
	return o
}

// ranImage is what the image does, which is no fault (27.6).
func (c compiledSource) ranImage(in []byte, steps int) api.Outcome {
	c.Helper()
	o, e := Run(c.image, in, steps)
	if e != api.OK || o.End != api.EndDone && o.End != api.EndFuel {
		c.Fatalf("%v: %v %v\n%s", in, e, o, c.source)
	}
	return o
}

// wantKept holds the image to 27.4, with an input, and a fuel for the source.
func (c compiledSource) wantKept(in []byte, fuel int, count ends) (source, image api.Outcome) {
	c.Helper()
	source = c.ran(in, fuel)
	if source.End == api.EndDone {
		image = c.ranImage(in, c.cost*(source.Steps+1))
		end := image.Code == api.ExitHeap || image.Code == api.ExitStack
		same := image.Code == source.Code && bytes.Equal(image.Out, source.Out)
		if image.End != api.EndDone || !same && !(end && bytes.HasPrefix(source.Out, image.Out)) {
			c.Fatalf("%v: %v, not %v\n%s", in, image, source, c.source)
		}
	} else {
		for _, steps := range []int{0, 1, fuel / 2, fuel} {
			image = c.wantBeginning(in, steps, fuel)
		}
	}
	count[[4]int{source.End, source.Code, image.End, image.Code}]++
	return source, image
}

// wantBeginning holds what the image prints in so many steps to be a beginning of what the source prints, which has more fuel for that. (To print a number takes the machine more steps than it takes the source to come to that, but by far.)
func (c compiledSource) wantBeginning(in []byte, steps, fuel int) api.Outcome {
	c.Helper()
	image := c.ranImage(in, steps)
	for fuel > 0 {
		if source := c.ran(in, fuel); bytes.HasPrefix(source.Out, image.Out) {
			return image
		} else if !bytes.HasPrefix(image.Out, source.Out) || fuel > 100*steps {
			c.Fatalf("%v: in %d steps %v, not %v\n%s", in, steps, image, source, c.source)
		}
		fuel *= 4
	}
	return image
}

// wantEnd holds a source that is done, and its image, to what they print, line by line, and to a code.
func (c compiledSource) wantEnd(in []byte, code int, out string, count ends) {
	c.Helper()
	source, image := c.wantKept(in, 100000, count)
	out = lines(out)
	if source.End != api.EndDone || source.Code != code || string(source.Out) != out || image.Code != code {
		c.Errorf("%v: %d %d %q, %d %d %q, not %d %q\n%s", in, source.End, source.Code, source.Out, image.End, image.Code, image.Out, code, out, c.source)
	}
}

// lines are words as lines.
func lines(words string) string {
	var s strings.Builder
	for _, w := range strings.Fields(words) {
		s.WriteString(w + "\n")
	}
	return s.String()
}

// inMain is a source of types and functions, and of a main.
func inMain(body string) string { return prelude + "fn main() { " + body + " }" }

const prelude = "struct S { a: i64, b: Box<i64> } struct D { x: Box<i64>, y: Box<i64> } struct P { d: D, e: E, t: bool, u: () } enum E { A, B(i64), C(S), T(bool) } enum L { Nil, Cons(Box<N>) } struct N { v: i64, next: L } " +
	"fn sum(l: &L) -> i64 { match l { L::Nil => 0, L::Cons(n) => n.v + sum(&n.next) } } " +
	"fn list(n: i64) -> L { let mut l = L::Nil; let mut i = 0; while i < n { l = L::Cons(Box::new(N { v: i, next: l })); i = i + 1; } l } " +
	"fn last(l: &mut L) -> &mut L { let mut p = &mut *l; while true { match p { L::Nil => { return p; }, L::Cons(n) => { p = &mut n.next; } } } panic() } " +
	"fn fib(n: i64) -> i64 { if n < 2 { n } else { fib(n - 1) + fib(n - 2) } } fn even(n: i64) -> bool { if n == 0 { true } else { odd(n - 1) } } fn odd(n: i64) -> bool { if n == 0 { false } else { even(n - 1) } } " +
	"fn add(a: &mut i64, b: i64) { *a = *a + b; } fn pair(a: i64, b: i64) -> D { D { x: Box::new(a), y: Box::new(b) } } fn six(a: i64, b: bool, c: D, d: E, e: (), f: &i64) -> i64 { let n = match d { E::B(x) => x, E::C(s) => s.a + *s.b, E::T(t) => if t { 1 } else { 2 }, E::A => 0 }; if b { a + *c.x * *c.y + n + *f } else { a } } " +
	"fn pick(c: bool, a: &i64, b: &i64) -> &i64 { if c { a } else { b } } "
