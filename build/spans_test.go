package build

import (
	"strings"
	"testing"

	"patina/api"
)

// 20.1: what ends a scope stands at the last byte of what the scope is of, and what leaves several at the statement that does.
func TestScopeEnds(t *testing.T) {
	source := "fn f(p: Box<i64>) { let a = Box::new(1); { let b = Box::new(2); } match Box::new(3) { c => { let d = Box::new(4); }, } while true { let e = Box::new(5); break ; } return ; }" + behindAll
	u := typedOf(t, source)
	m, d := Of(u)
	if d.Code != api.OK {
		t.Fatal(d)
	}
	byte1 := func(text string) span { // the last byte of a text
		k := strings.Index(source, text)
		return span{k + len(text) - 1, k + len(text)}
	}
	all := func(text string) span {
		k := strings.Index(source, text)
		return span{k, k + len(text)}
	}
	want := map[string]span{ // of each variable's end, with its drop's
		"b": byte1("{ let b = Box::new(2); }"), "d": byte1("{ let d = Box::new(4); }"), "c": byte1("c => { let d = Box::new(4); },"), "e": all("break"), "a": all("return"), "p": all("return"),
	}
	f := m.Fns[0]
	ends := 0
	for _, b := range f.Blocks {
		for _, s := range b.Stmts {
			at := span{s.From, s.To}
			switch name := f.Locals[s.Place.Local].Name; {
			case s.Kind == api.MDead || s.Kind == api.MDrop && name != "":
				ends++
				if at != want[name] {
					t.Errorf("%s: %v, not %v", name, at, want[name])
				}
			case s.Kind == api.MDrop && at != byte1("match Box::new(3) { c => { let d = Box::new(4); }, }"):
				t.Errorf("the match's own: %v", at)
			}
		}
		if x := b.Term; x.Kind == api.TReturn && (span{x.At, x.Till}) != all("return") {
			t.Error(x)
		}
	}
	if ends != 12 {
		t.Error(ends)
	}
}

// 20.1: a function's own end stands at its last byte.
func TestFunctionEnds(t *testing.T) {
	source := "struct N { } fn f(a: i64, b: Box<i64>) -> i64 { a }   fn main() { } struct M { }"
	u := typedOf(t, source)
	m, _ := Of(u)
	end := strings.Index(source, "   fn main")
	for _, s := range m.Fns[0].Blocks[0].Stmts[1:] {
		if s.From != end-1 || s.To != end {
			t.Error(s)
		}
	}
	if x := m.Fns[0].Blocks[0].Term; x.At != end-1 || x.Till != end || len(m.Fns[0].Blocks[0].Stmts) != 4 {
		t.Error(x)
	}
}
