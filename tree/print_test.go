package tree

import (
	"math/rand"
	"strings"
	"testing"

	"patina/api"
	"patina/lex"
	"patina/parse"
)

// 13.1: the printed form of each kind: sources, and what they are printed as (nothing: as they stand).
func TestPrintedForms(t *testing.T) {
	for _, c := range [][2]string{
		{""}, {"fn f ( ) { }"}, {"fn f() -> () { }", "fn f ( ) { }"}, {"fn f ( a : i64 ) -> i64 { a }"}, {"fn f ( mut a : & mut S , b : & ( ) ) -> Box < bool > { a }"}, {"fn f(a: i64,) { }", "fn f ( a : i64 ) { }"},
		{"fn f ( ) -> & ( ) { }"}, {"fn f ( ) -> Box < ( ) > { }"}, {"fn f ( a : ( ) ) { }"},
		{"struct S { }"}, {"struct S { a : i64 }"}, {"struct S { a : i64 , b : Box < Box < S > > , }", "struct S { a : i64 , b : Box < Box < S > > }"},
		{"enum E { }"}, {"enum E { A }"}, {"enum E { A ( i64 ) }"}, {"enum E { A , B ( ( ) ) , C ( Box < E > ) , D , }", "enum E { A , B ( ( ) ) , C ( Box < E > ) , D }"},
		{"struct S { } enum E { A } fn f ( ) { } fn g ( ) { }"},
	} {
		wantPrinted(t, c[0], c[1])
	}
}

// 13.1: statements and expressions of all kinds, in a function's block.
func TestPrintedBodies(t *testing.T) {
	for _, c := range [][2]string{
		{"let x = 1 ;"}, {"let mut x = 1 ;"}, {"let x : i64 = 1 ;"}, {"let mut x : & mut Box < S > = 1 ;"}, {"let x = (1 + 2);", "let x = 1 + 2 ;"}, {"let x = 1 + ( 2 * 3 ) ; print ( x ) ;"},
		{"x ;"}, {"x . y ;"}, {"1 + 2 ;"}, {"S { } ;"}, {"{ } ;"}, {"if a { } ;"}, {"match a { } ;"}, {"{ } { }", "{ } ; { }"}, {"if a { } x", "if a { } ; x"}, {"if a { }"}, {"match a { } ( )", "match a { } ; ( )"},
		{"return ;"}, {"return x ;"}, {"return (1 + 2) ;", "return 1 + 2 ;"}, {"return S { } ;"}, {"break ;"}, {"continue ;"},
		{"x = 1 ;"}, {"x = f ( ) ;"}, {"x.y = 1;", "( x . y ) = 1 ;"}, {"*x = 1;", "( * x ) = 1 ;"}, {"x = 1 + 2;", "x = ( 1 + 2 ) ;"}, {"x = y.z;", "x = ( y . z ) ;"}, {"x = S { };", "x = ( S { } ) ;"}, {"x = { };", "x = ( { } ) ;"},
		{"1 = 2 ;"}, {"true = false ;"}, {"( ) = ( ) ;"}, {"E :: V = E :: V ( 1 ) ;"}, {"Box :: new ( 1 ) = Box :: new ( 1 + 2 ) ;"}, {"f ( 1 + 2 ) = f ( ) ;"}, {"x = if a { } else { };", "x = ( if a { } else { } ) ;"}, {"x = match a { };", "x = ( match a { } ) ;"},
		{"(-x) = !x;", "( - x ) = ( ! x ) ;"}, {"(&x) = &mut x;", "( & x ) = ( & mut x ) ;"},
		{"while true { }"}, {"while x { break ; }"}, {"while a < b { x = 1 ; }", "while ( a < b ) { x = 1 ; }"}, {"while x.y { }", "while ( x . y ) { }"}, {"while (S { }) { }", "while ( S { } ) { }"}, {"while f ( S { } ) { } x"}, {"while !a { }", "while ( ! a ) { }"},
		{"while { true } { }", "while ( { true } ) { }"}, {"while 1 { }"}, {"while ( ) { }"}, {"while E :: V { }"}, {"while E :: V ( S { } ) { }"}, {"while Box :: new ( S { } ) { }"},
		{"0"}, {"007", "7"}, {"9223372036854775807"}, {"true"}, {"false"}, {"( )"}, {"x"}, {"((x))", "x"}, {"f ( )"}, {"f ( 1 )"}, {"f ( 1 , x . y , - 1 , S { } , )", "f ( 1 , x . y , - 1 , S { } )"},
		{"S { }"}, {"S { a : 1 }"}, {"S { a : 1 + 2 , b : S { } , }", "S { a : 1 + 2 , b : S { } }"}, {"E :: V"}, {"E :: V ( 1 )"}, {"E::V(1 + 2)", "E :: V ( 1 + 2 )"}, {"new :: new"}, {"Box :: new ( x )"}, {"Box::new(1 + 2)", "Box :: new ( 1 + 2 )"},
		{"- 1"}, {"--1", "- ( - 1 )"}, {"! x"}, {"!!x", "! ( ! x )"}, {"* x"}, {"**x", "* ( * x )"}, {"& x"}, {"& mut x"}, {"& & x", "& ( & x )"}, {"&mut x.y", "& mut ( x . y )"}, {"&*x", "& ( * x )"}, {"-x.y", "- ( x . y )"}, {"- f ( )"}, {"! true"}, {"* Box :: new ( 1 )"}, {"& ( )"}, {"& E :: V"},
		{"-(1 + 2)", "- ( 1 + 2 )"}, {"!S { }", "! ( S { } )"}, {"*{ x }", "* ( { x } )"}, {"&if a { } else { }", "& ( if a { } else { } )"}, {"-match a { }", "- ( match a { } )"},
		{"x . y"}, {"x . y . z"}, {"(x.y).z", "x . y . z"}, {"f ( ) . y"}, {"1 . y"}, {"true . y"}, {"( ) . y"}, {"E :: V . y"}, {"E :: V ( 1 ) . y"}, {"Box :: new ( 1 ) . y"}, {"S { }.y", "( S { } ) . y"}, {"(-x).y", "( - x ) . y"}, {"(a + b).y.z", "( a + b ) . y . z"},
		{"(*x).y", "( * x ) . y"}, {"(&x).y", "( & x ) . y"}, {"({ }).y", "( { } ) . y"}, {"(if a { } else { }).y", "( if a { } else { } ) . y"}, {"(match a { }).y", "( match a { } ) . y"}, {"(!x).y", "( ! x ) . y"},
		{"a + b"}, {"a - b"}, {"a * b"}, {"a / b"}, {"a % b"}, {"a < b"}, {"a > b"}, {"a <= b"}, {"a >= b"}, {"a == b"}, {"a != b"}, {"a && b"}, {"a || b"},
		{"a + b + c", "( a + b ) + c"}, {"a + b * c", "a + ( b * c )"}, {"a * b + c", "( a * b ) + c"}, {"a || b && c == d", "a || ( b && ( c == d ) )"}, {"(a < b) < c", "( a < b ) < c"}, {"a + (b + c)", "a + ( b + c )"},
		{"x.y + x.z", "( x . y ) + ( x . z )"}, {"-1 - -2", "( - 1 ) - ( - 2 )"}, {"1 + true", "1 + true"}, {"( ) == f ( )"}, {"E :: V == E :: V ( 1 )"}, {"Box :: new ( 1 ) + Box :: new ( 2 )"}, {"S { } == S { }", "( S { } ) == ( S { } )"}, {"a && &b", "a && ( & b )"}, {"({ }) + ({ })", "( { } ) + ( { } )"},
		{"if a { } else { }"}, {"if a { 1 } else if b { 2 } else { 3 }"}, {"if a { } else if b { }"}, {"if a == b { }", "if ( a == b ) { }"}, {"if S { }"}, {"if (S { }) { }", "if ( S { } ) { }"}, {"if x.y.z { }", "if ( x . y . z ) { }"}, {"if if a { b } else { c } { }", "if ( if a { b } else { c } ) { }"}, {"if (-1) { }", "if ( - 1 ) { }"}, {"if f ( a < b ) { }"},
		{"match a { }"}, {"match a { _ => 1 }"}, {"match a { _ => 1 , }", "match a { _ => 1 }"}, {"match a { _ => { } x => 1 + 2, }", "match a { _ => { } , x => 1 + 2 }"}, {"match a.b { _ => { } }", "match ( a . b ) { _ => { } }"}, {"match S { } { }", "match S { } ; { }"},
		{"match (S { }) { _ => S { } }", "match ( S { } ) { _ => S { } }"}, {"match a { x => 1 , 0 => 2 , 7 => 3 , - 7 => 4 , true => 5 , false => 6 , E :: V => 7 , E :: V ( x ) => 8 , E :: V ( F :: W ( - 1 ) ) => 9 }"},
		{"match 1 { -0 => 1, 00 => 2 }", "match 1 { 0 => 1 , 0 => 2 }"}, {"match a { - 9223372036854775807 => 1 , 9223372036854775807 => 2 }"}, {"match a { _ => if a { 1 } else { 2 } , _ => match a { } , _ => x . y }"}, {"match a { _ => ({ }).x }", "match a { _ => ( { } ) . x }"}, {"match & x { }", "match ( & x ) { }"},
		{"{ }"}, {"{ x }"}, {"{ { } }"}, {"{ let x = 1 ; x }"}, {"{ x ; }"}, {"({ x })", "{ x }"}, {"let x = { 1 } ;"}, {"return { } ;"},
	} {
		inside := func(s string) string { return strings.Join(strings.Fields("fn main ( ) { "+s+" }"), " ") }
		if c[1] == "" {
			c[1] = c[0]
		}
		wantPrinted(t, inside(c[0]), inside(c[1]))
	}
}

// wantPrinted holds a source to what it is printed as, which must say the same, and be printed as it stands.
func wantPrinted(t *testing.T, source, want string) {
	t.Helper()
	if want == "" {
		want = source
	}
	x, d := parse.Parse(source)
	if d.Code != api.OK {
		t.Errorf("%q: %v", source, d)
		return
	}
	s, e := Print(x)
	if s != want || e != api.OK {
		t.Errorf("%q is printed as %q, %v, not %q", source, s, e, want)
	}
	wantReadAgain(t, x, s)
}

// wantReadAgain holds a printed form to P9: it is read as the same tree, in lex's form.
func wantReadAgain(t *testing.T, x api.Tree, printed string) {
	t.Helper()
	y, d := parse.Parse(printed)
	if d.Code != api.OK || !Same(x, y) {
		t.Errorf("%q is not read as it was: %v", printed, d)
	}
	tokens, d := lex.Tokens(printed)
	if s, e := lex.Print(tokens); s != printed || e != api.OK || d.Code != api.OK {
		t.Errorf("%q is not in lex's form: %q, %v, %v", printed, s, e, d)
	}
	if s, e := Print(y); s != printed || e != api.OK {
		t.Errorf("%q is printed as %q, %v", printed, s, e)
	}
}

// P9, 13.1: trees that were made are printed as they must be, whatever the order of their nodes, and read again as they were.
func TestPrintedTrees(t *testing.T) {
	r := rand.New(rand.NewSource(9))
	m := &maker{r: r}
	seen := map[int]int{}
	for range 2500 {
		x, text := m.tree(r.Intn(4), r.Intn(5))
		if len(x.Nodes) > 3000 {
			continue
		}
		if s, e := Print(x); s != text || e != api.OK {
			t.Fatalf("printed as %q, %v, not %q", s, e, text)
		}
		wantReadAgain(t, x, text)
		y, places := shuffled(r, x)
		if s, e := Print(y); s != text || e != api.OK {
			t.Fatalf("in another order: %q, %v, not %q", s, e, text)
		}
		for k, n := range x.Nodes {
			seen[n.Kind]++
			if z, e := Sub(y, places[k]); e != api.OK || len(z.Nodes) == 0 || z.Nodes[len(z.Nodes)-1].Kind != n.Kind {
				t.Fatal(z, e)
			}
			if k > 50 {
				break
			}
		}
	}
	for _, kind := range allKinds() {
		if seen[kind] < 20 {
			t.Errorf("kind %d was printed %d times", kind, seen[kind])
		}
	}
}

// P9: sources in other forms say the same as what they are printed as.
func TestSourcesAndPrintedForms(t *testing.T) {
	for _, source := range []string{
		"struct List{head:i64,tail:Next,}enum Next{None,Some(Box<List>),}fn sum(l:&List)->i64{match &l.tail{Next::None=>l.head,Next::Some(b)=>l.head+sum(&**b),}}fn main(){let l=List{head:1,tail:Next::None};print(sum(&l));}",
		"fn main() { // a remark\n\tlet mut i = 0;\n\twhile i < 10 && !(i == 7) { i = i + 1; if i % 2 == 0 { continue; } print(i); }\n}\n",
		"fn f(a: bool) -> i64 { if a { return (((1))); } else { }; { { 2 } } }",
		"fn f() { match read() { -1 => { }, 10 => { f(); } x => print(x), } match true { true => (), false => panic() } }",
		"fn f(r: &mut Box<i64>) { **r = *(*r) + 1; (r) = &mut (*r); }",
	} {
		x, d := parse.Parse(source)
		if d.Code != api.OK {
			t.Fatal(source, d)
		}
		s, e := Print(x)
		if e != api.OK || s == source {
			t.Error(s, e)
		}
		wantReadAgain(t, x, s)
	}
}

// 13.1: a tree with more tokens than lex prints, and one as deep as it may be, are printed all the same.
func TestGreatTrees(t *testing.T) {
	var b bench
	var kids []int
	for len(b.nodes) < api.MaxNodes-6 {
		k := b.put(api.KNew, "", 0, b.put(api.KNil, "", 0))
		kids = append(kids, b.put(api.KPick, "E::V", 0, k))
	}
	x := b.above(api.KCall, b.put(api.KCall, "f", 0, kids...))
	s, e := Print(x)
	part := "E :: V ( Box :: new ( ( ) ) )"
	if want := "fn f ( ) { f ( " + strings.Repeat(part+" , ", len(kids)-1) + part + " ) }"; s != want || e != api.OK {
		t.Error(len(s), e)
	}
	if n := len(strings.Fields(s)); n <= api.MaxSource {
		t.Error(n)
	}
	s, e = Print(deepTree(api.KNeg, 4*api.MaxDeep))
	n := 4*api.MaxDeep - 3
	if want := "fn f ( ) { " + strings.Repeat("- ( ", n-1) + "- ( )" + strings.Repeat(" )", n-1) + " }"; s != want || e != api.OK {
		t.Errorf("%q, %v", s, e)
	}
	s, e = Print(wide(api.MaxNodes))
	if want := strings.Repeat("struct S { } ", api.MaxNodes-1); s+" " != want || e != api.OK {
		t.Error(len(s), e)
	}
}

// 13.1: the chapter's example.
func TestExample(t *testing.T) {
	wantPrinted(t, "fn main() { let x = 1 + 2 * 3; print(x); }", "fn main ( ) { let x = 1 + ( 2 * 3 ) ; print ( x ) ; }")
}
