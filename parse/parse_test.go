package parse

import (
	"errors"
	"math"
	"slices"
	"strings"
	"testing"
	"unsafe"

	"patina/api"
)

func wantShown(t *testing.T, read func(string) (api.Tree, api.Diag), source, want string) {
	t.Helper()
	tree, d := read(source)
	if d != (api.Diag{}) {
		t.Errorf("%q: %v", source, d)
		return
	}
	wantRight(t, source, tree.Nodes)
	shown := show(tree.Nodes, "")
	if strings.Contains(want, "<") && !strings.Contains(want, "Bin <") {
		shown = show(tree.Nodes, source)
	}
	if shown != want {
		t.Errorf("%q tells\n%s, not\n%s", source, shown, want)
	}
}

// inMain is a source whose main has that in its block, and what is shown of it.
func inMain(body string) string { return "fn main() {" + body + "}" }

func mainShown(block string) string { return "Crate(Fn main(TyUnit, " + block + "))" }

// 12.1: the chapter's first example, node by node.
func TestExample(t *testing.T) {
	tree, d := Parse("fn main() { print(1 + 2 * 3); }")
	want := []api.Node{
		{Kind: api.KTyUnit, From: 9, To: 9}, {Kind: api.KNum, Num: 1, From: 18, To: 19}, {Kind: api.KNum, Num: 2, From: 22, To: 23}, {Kind: api.KNum, Num: 3, From: 26, To: 27},
		{Kind: api.KBin, Name: "*", Kids: []int{2, 3}, From: 22, To: 27}, {Kind: api.KBin, Name: "+", Kids: []int{1, 4}, From: 18, To: 27},
		{Kind: api.KCall, Name: "print", Kids: []int{5}, From: 12, To: 28}, {Kind: api.KDo, Kids: []int{6}, From: 12, To: 28}, {Kind: api.KBlock, Kids: []int{7}, From: 10, To: 31},
		{Kind: api.KFn, Name: "main", Kids: []int{0, 8}, From: 0, To: 31}, {Kind: api.KCrate, Kids: []int{9}, From: 0, To: 31},
	}
	if d != (api.Diag{}) || !slices.EqualFunc(tree.Nodes, want, sameNode) {
		t.Error(tree, d)
	}
}

// 12.1: items, with each part that may be there and may not.
func TestItems(t *testing.T) {
	for _, c := range [][2]string{
		{"", "Crate"}, {" \n// nothing", "Crate"},
		{" fn f ( ) { } ", "Crate < fn f ( ) { } >(Fn f <fn f ( ) { }>(TyUnit <>, Block <{ }>))"},
		{"fn f()->(){}", "Crate <fn f()->(){}>(Fn f <fn f()->(){}>(TyUnit <()>, Block <{}>))"},
		{"fn f(a: i64){}", "Crate <fn f(a: i64){}>(Fn f 1 <fn f(a: i64){}>(Param a <a: i64>(TyInt <i64>), TyUnit <>, Block <{}>))"},
		{"fn f(a: i64,){}", "Crate <fn f(a: i64,){}>(Fn f 1 <fn f(a: i64,){}>(Param a <a: i64>(TyInt <i64>), TyUnit <>, Block <{}>))"},
		{"fn f(mut a:&mut S,b:bool)->Box<i64>{a}", "Crate(Fn f 2(Param a 1(TyMut(TyName S)), Param b(TyBool), TyBox(TyInt), Block 1(Var a)))"},
		{"fn f(mut a:S , ) { }", "Crate <fn f(mut a:S , ) { }>(Fn f 1 <fn f(mut a:S , ) { }>(Param a 1 <mut a:S>(TyName S <S>), TyUnit <>, Block <{ }>))"},
		{"struct S{}", "Crate <struct S{}>(Struct S <struct S{}>)"},
		{"struct S { a : i64 }", "Crate <struct S { a : i64 }>(Struct S <struct S { a : i64 }>(Field a <a : i64>(TyInt <i64>)))"},
		{"struct S{a:i64,b:Box<S>,}", "Crate(Struct S(Field a(TyInt), Field b(TyBox(TyName S))))"},
		{"struct S { a : () , } //", "Crate <struct S { a : () , } //>(Struct S <struct S { a : () , }>(Field a <a : ()>(TyUnit <()>)))"},
		{"enum E{}", "Crate <enum E{}>(Enum E <enum E{}>)"},
		{"enum E{A}", "Crate <enum E{A}>(Enum E <enum E{A}>(Variant A <A>))"},
		{"enum E { A , B ( i64 ) , C , }", "Crate <enum E { A , B ( i64 ) , C , }>(Enum E <enum E { A , B ( i64 ) , C , }>(Variant A <A>, Variant B <B ( i64 )>(TyInt <i64>), Variant C <C>))"},
		{"enum E { A(Box<E>), B }", "Crate(Enum E(Variant A(TyBox(TyName E)), Variant B))"},
		{"struct S{} enum E{} fn f(){} struct S{}", "Crate(Struct S, Enum E, Fn f(TyUnit, Block), Struct S)"},
	} {
		wantShown(t, Parse, c[0], c[1])
	}
	tree, _ := Parse("fn f ( a : i64 , ) // a\n{ }")
	if n := tree.Nodes[2]; n.Kind != api.KTyUnit || n.From != 18 || n.To != 18 {
		t.Error("a result that is not written", n)
	}
}

// 12.2: types and patterns.
func TestTypesAndPatterns(t *testing.T) {
	for _, c := range [][2]string{
		{"i64", "TyInt <i64>"}, {" bool ", "TyBool <bool>"}, {"( )", "TyUnit <( )>"}, {"S", "TyName S <S>"}, {"new", "TyName new <new>"}, {"& i64", "TyRef <& i64>(TyInt <i64>)"},
		{"&mut i64", "TyMut <&mut i64>(TyInt <i64>)"}, {"& & mut S", "TyRef <& & mut S>(TyMut <& mut S>(TyName S <S>))"}, {"Box<i64>", "TyBox <Box<i64>>(TyInt <i64>)"},
		{"Box<Box<()>>//", "TyBox <Box<Box<()>>>(TyBox <Box<()>>(TyUnit <()>))"}, {"&mut Box < & bool >", "TyMut(TyBox(TyRef(TyBool)))"},
	} {
		wantShown(t, Type, c[0], c[1])
	}
	for _, c := range [][2]string{
		{"_", "PAny <_>"}, {" x // y", "PVar x <x>"}, {"_x", "PVar _x <_x>"}, {"7", "PNum 7 <7>"}, {"007", "PNum 7 <007>"}, {"0", "PNum <0>"}, {"- 7", "PNum -7 <- 7>"}, {"-0", "PNum <-0>"},
		{"9223372036854775807", "PNum 9223372036854775807 <9223372036854775807>"}, {"-9223372036854775807", "PNum -9223372036854775807 <-9223372036854775807>"},
		{"true", "PTruth 1 <true>"}, {"false", "PTruth <false>"}, {"E :: V", "PPick E::V <E :: V>"}, {"E::V( x )", "PPick E::V <E::V( x )>(PVar x <x>)"},
		{"E::V(F::W(-1)) ", "PPick E::V <E::V(F::W(-1))>(PPick F::W <F::W(-1)>(PNum -1 <-1>))"}, {"new::new", "PPick new::new <new::new>"},
	} {
		wantShown(t, Pattern, c[0], c[1])
	}
	tree, _ := Pattern("-9223372036854775807")
	if len(tree.Nodes) != 1 || tree.Nodes[0].Num != -math.MaxInt64 {
		t.Error(tree)
	}
}

// 12.2: what an expression begins with.
func TestPrimaries(t *testing.T) {
	for _, c := range [][2]string{
		{"0", "Num <0>"}, {"0042", "Num 42 <0042>"}, {"9223372036854775807", "Num 9223372036854775807 <9223372036854775807>"}, {"true", "Truth 1 <true>"}, {"false", "Truth <false>"}, {"( )", "Nil <( )>"},
		{"x", "Var x <x>"}, {"new", "Var new <new>"}, {"( x )", "Var x <x>"}, {"((x))", "Var x <x>"}, {"((()))", "Nil <()>"}, {"f()", "Call f <f()>"}, {"f ( 1 , )", "Call f <f ( 1 , )>(Num 1 <1>)"},
		{"f((1),(x))", "Call f <f((1),(x))>(Num 1 <1>, Var x <x>)"}, {"new(1)", "Call new <new(1)>(Num 1 <1>)"}, {"S{}", "Make S <S{}>"}, {"S { a : 1 }", "Make S <S { a : 1 }>(Init a <a : 1>(Num 1 <1>))"},
		{"S{a:(1),b:x,}", "Make S <S{a:(1),b:x,}>(Init a <a:(1)>(Num 1 <1>), Init b <b:x>(Var x <x>))"}, {"E :: V", "Pick E::V <E :: V>"}, {"E::V ( (1) )", "Pick E::V <E::V ( (1) )>(Num 1 <1>)"},
		{"Box::new(1)", "New <Box::new(1)>(Num 1 <1>)"}, {"Box :: new ( ( x ) )", "New <Box :: new ( ( x ) )>(Var x <x>)"}, {"{ }", "Block <{ }>"}, {"{ x }", "Block 1 <{ x }>(Var x <x>)"},
		{"x.y", "Get y <x.y>(Var x <x>)"}, {"x . y . z", "Get z <x . y . z>(Get y <x . y>(Var x <x>))"}, {"(x).y", "Get y <(x).y>(Var x <x>)"}, {"(x.y).z", "Get z <(x.y).z>(Get y <x.y>(Var x <x>))"},
		{"((x) . y)", "Get y <(x) . y>(Var x <x>)"}, {"f(x).new", "Get new <f(x).new>(Call f <f(x)>(Var x <x>))"}, {"S{}.a", "Get a <S{}.a>(Make S <S{}>)"}, {"1.a", "Get a <1.a>(Num 1 <1>)"},
		{"E::V.a", "Get a <E::V.a>(Pick E::V <E::V>)"}, {"{}.a", "Get a <{}.a>(Block <{}>)"}, {"if a {} else {}.b", "Get b <if a {} else {}.b>(If <if a {} else {}>(Var a <a>, Block <{}>, Block <{}>))"},
		{"Box::new(()).a", "Get a(New(Nil))"}, {"().a", "Get a(Nil)"}, {"match x {}.a", "Get a(Match(Var x))"},
	} {
		wantShown(t, Expr, c[0], c[1])
	}
}

// 12.2: signs ahead of an operand, and between two.
func TestSignsOfExprs(t *testing.T) {
	for _, c := range [][2]string{
		{"- x", "Neg <- x>(Var x <x>)"}, {"!x", "Not <!x>(Var x <x>)"}, {"*x", "Star <*x>(Var x <x>)"}, {"& x", "Borrow <& x>(Var x <x>)"}, {"& mut x", "Borrow 1 <& mut x>(Var x <x>)"},
		{"-(x)", "Neg <-(x)>(Var x <x>)"}, {"- -7", "Neg <- -7>(Neg <-7>(Num 7 <7>))"}, {"-x.y", "Neg <-x.y>(Get y <x.y>(Var x <x>))"}, {"(-x).y", "Get y <(-x).y>(Neg <-x>(Var x <x>))"}, {"(-7)", "Neg <-7>(Num 7 <7>)"},
		{"& *r", "Borrow(Star(Var r))"}, {"&mut *r.a", "Borrow 1(Star(Get a(Var r)))"}, {"& & mut & x", "Borrow(Borrow 1(Borrow(Var x)))"}, {"*&!-x", "Star(Borrow(Not(Neg(Var x))))"},
		{"a - -b", "Bin -(Var a, Neg(Var b))"}, {"a * *b", "Bin *(Var a, Star(Var b))"}, {"-a * b", "Bin *(Neg(Var a), Var b)"}, {"-a + b", "Bin +(Neg(Var a), Var b)"}, {"!a && !b", "Bin &&(Not(Var a), Not(Var b))"},
		{"(a) + b", "Bin + <(a) + b>(Var a <a>, Var b <b>)"}, {"a + (b)", "Bin + <a + (b)>(Var a <a>, Var b <b>)"}, {"( a + b )", "Bin + <a + b>(Var a <a>, Var b <b>)"},
		{"((a)) * ((b))", "Bin * <((a)) * ((b))>(Var a <a>, Var b <b>)"}, {"(a + b) + c", "Bin + <(a + b) + c>(Bin + <a + b>(Var a <a>, Var b <b>), Var c <c>)"},
		{"a + b + c", "Bin + <a + b + c>(Bin + <a + b>(Var a <a>, Var b <b>), Var c <c>)"}, {"a + (b + c)", "Bin + <a + (b + c)>(Var a <a>, Bin + <b + c>(Var b <b>, Var c <c>))"},
		{"(a) - (b) - (c)", "Bin - <(a) - (b) - (c)>(Bin - <(a) - (b)>(Var a <a>, Var b <b>), Var c <c>)"},
		{"{ 1 } + { 2 }", "Bin +(Block 1(Num 1), Block 1(Num 2))"}, {"if a {1} else {2} + 3", "Bin +(If(Var a, Block 1(Num 1), Block 1(Num 2)), Num 3)"}, {"match a {} - 1", "Bin -(Match(Var a), Num 1)"},
		{"-if a {}", "Neg(If(Var a, Block))"}, {"1 + if a {} else {} * 2", "Bin +(Num 1, Bin *(If(Var a, Block, Block), Num 2))"}, {"- { 1 } . a", "Neg(Get a(Block 1(Num 1)))"},
	} {
		wantShown(t, Expr, c[0], c[1])
	}
}

// 12.1: of every two signs between three operands the tighter one is taken first, of one row the left one, and of comparisons one alone.
func TestStrengthOfSigns(t *testing.T) {
	strength := map[string]int{}
	for n, l := range signRows {
		for _, s := range l {
			strength[s] = n
		}
	}
	if len(strength) != 13 {
		t.Fatal(strength)
	}
	for a, m := range strength {
		wantTree(t, "x"+a+"y", Expr, []api.Node{{Kind: api.KVar, Name: "x", To: 1}, {Kind: api.KVar, Name: "y", From: 1 + len(a), To: 2 + len(a)}, {Kind: api.KBin, Name: a, Kids: []int{0, 1}, To: 2 + len(a)}})
		for b, n := range strength {
			source := "x " + a + " y " + b + " z"
			left := "Bin " + b + "(Bin " + a + "(Var x, Var y), Var z)"
			right := "Bin " + a + "(Var x, Bin " + b + "(Var y, Var z))"
			tree, d := Expr(source)
			switch {
			case m == 3 && n == 3:
				at := 5 + len(a)
				if d != (api.Diag{Code: api.ErrExpect, From: at, To: at + len(b)}) {
					t.Errorf("%q: %v", source, d)
				}
			case d.Code != api.OK || m >= n && show(tree.Nodes, "") != left || m < n && show(tree.Nodes, "") != right:
				t.Errorf("%q: %v, %v", source, show(tree.Nodes, ""), d)
			}
			for _, c := range [][2]string{{"( x " + a + " y ) " + b + " z", left}, {"x " + a + " ( y " + b + " z )", right}} {
				if tree, d := Expr(c[0]); d.Code != api.OK || show(tree.Nodes, "") != c[1] {
					t.Errorf("%q: %v, %v", c[0], show(tree.Nodes, ""), d)
				}
			}
		}
	}
	wantShown(t, Expr, "a || b && c == d + e * f", "Bin ||(Var a, Bin &&(Var b, Bin ==(Var c, Bin +(Var d, Bin *(Var e, Var f)))))")
	wantShown(t, Expr, "a * b + c == d && e || f", "Bin ||(Bin &&(Bin ==(Bin +(Bin *(Var a, Var b), Var c), Var d), Var e), Var f)")
	wantShown(t, Expr, "a == b && c == d", "Bin &&(Bin ==(Var a, Var b), Bin ==(Var c, Var d))")
	wantShown(t, Expr, "a / b % c * d", "Bin *(Bin %(Bin /(Var a, Var b), Var c), Var d)")
}

// 12.1: statements, without their ; , and what a block tells.
func TestStatements(t *testing.T) {
	for _, c := range [][2]string{
		{"", "Block"}, {"let x = 1;", "Block(Let x(Num 1))"}, {"let mut x = 1;", "Block(Let x 1(Num 1))"}, {"let x: i64 = 1;", "Block(Let x(TyInt, Num 1))"}, {"let mut x: &mut S = y;", "Block(Let x 1(TyMut(TyName S), Var y))"},
		{"while a { }", "Block(While(Var a, Block))"}, {"while a { } while b { }", "Block(While(Var a, Block), While(Var b, Block))"}, {"return;", "Block(Return)"}, {"return 1;", "Block(Return(Num 1))"}, {"return { };", "Block(Return(Block))"},
		{"break;", "Block(Break)"}, {"continue;", "Block(Next)"}, {"1;", "Block(Do(Num 1))"}, {"1", "Block 1(Num 1)"}, {"1; 2", "Block 1(Do(Num 1), Num 2)"}, {"x = 1;", "Block(Set(Var x, Num 1))"},
		{"x.y = z;", "Block(Set(Get y(Var x), Var z))"}, {"*x = 1;", "Block(Set(Star(Var x), Num 1))"}, {"1 + 2 = 3;", "Block(Set(Bin +(Num 1, Num 2), Num 3))"}, {"x == y = z;", "Block(Set(Bin ==(Var x, Var y), Var z))"},
		{"S { a: 1 };", "Block(Do(Make S(Init a(Num 1))))"}, {"S { } = x; S { }", "Block 1(Set(Make S, Var x), Make S)"}, {"x = if a { } else { };", "Block(Set(Var x, If(Var a, Block, Block)))"},
		{"{ }", "Block 1(Block)"}, {"{ };", "Block(Do(Block))"}, {"{ } { }", "Block 1(Do(Block), Block)"}, {"{ }; { };", "Block(Do(Block), Do(Block))"}, {"{ } 1", "Block 1(Do(Block), Num 1)"}, {"({ })", "Block 1(Block)"},
		{"if a { }", "Block 1(If(Var a, Block))"}, {"if a { };", "Block(Do(If(Var a, Block)))"}, {"if a { } 1;", "Block(Do(If(Var a, Block)), Do(Num 1))"}, {"if a { 1 } else { 2 } -3", "Block 1(Do(If(Var a, Block 1(Num 1), Block 1(Num 2))), Neg(Num 3))"},
		{"match a { } *x = 1;", "Block(Do(Match(Var a)), Set(Star(Var x), Num 1))"}, {"{ 1 } (2)", "Block 1(Do(Block 1(Num 1)), Num 2)"}, {"{ 1 } & x", "Block 1(Do(Block 1(Num 1)), Borrow(Var x))"}, {"{ 1 } !x", "Block 1(Do(Block 1(Num 1)), Not(Var x))"},
		{"({ 1 } + 2)", "Block 1(Bin +(Block 1(Num 1), Num 2))"}, {"({ 1 }) + 2;", "Block(Do(Bin +(Block 1(Num 1), Num 2)))"}, {"1 + { 1 } + 2", "Block 1(Bin +(Bin +(Num 1, Block 1(Num 1)), Num 2))"}, {"-{ 1 } - 2", "Block 1(Bin -(Neg(Block 1(Num 1)), Num 2))"},
		{"let x = { 1 } - 2;", "Block(Let x(Bin -(Block 1(Num 1), Num 2)))"}, {"return if a { 1 } else { 2 } + 3;", "Block(Return(Bin +(If(Var a, Block 1(Num 1), Block 1(Num 2)), Num 3)))"}, {"x = { 1 } * 2;", "Block(Set(Var x, Bin *(Block 1(Num 1), Num 2)))"},
	} {
		wantShown(t, Parse, inMain(c[0]), mainShown(c[1]))
		if c[0] != "" {
			wantShown(t, Expr, "{"+c[0]+"}", c[1])
		}
	}
	for _, c := range [][2]string{
		{"{ let x = ( 1 ) ; }", "Block <{ let x = ( 1 ) ; }>(Let x <let x = ( 1 )>(Num 1 <1>))"}, {"{ let mut x : i64 = 1; }", "Block <{ let mut x : i64 = 1; }>(Let x 1 <let mut x : i64 = 1>(TyInt <i64>, Num 1 <1>))"},
		{"{ (x) ; }", "Block <{ (x) ; }>(Do <(x)>(Var x <x>))"}, {"{ ( x ) }", "Block 1 <{ ( x ) }>(Var x <x>)"}, {"{ ( x ) = ( y ) ; }", "Block <{ ( x ) = ( y ) ; }>(Set <( x ) = ( y )>(Var x <x>, Var y <y>))"},
		{"{ return ; }", "Block <{ return ; }>(Return <return>)"}, {"{ return ( x ) ; }", "Block <{ return ( x ) ; }>(Return <return ( x )>(Var x <x>))"}, {"{ break ; continue ; }", "Block <{ break ; continue ; }>(Break <break>, Next <continue>)"},
		{"{ while ( x ) { } }", "Block <{ while ( x ) { } }>(While <while ( x ) { }>(Var x <x>, Block <{ }>))"}, {"{ { } ; { } }", "Block 1 <{ { } ; { } }>(Do <{ }>(Block <{ }>), Block <{ }>)"},
		{"{ if (a) { } else { } ; }", "Block <{ if (a) { } else { } ; }>(Do <if (a) { } else { }>(If <if (a) { } else { }>(Var a <a>, Block <{ }>, Block <{ }>)))"},
		{"{ ({}) + (b) ; }", "Block <{ ({}) + (b) ; }>(Do <({}) + (b)>(Bin + <({}) + (b)>(Block <{}>, Var b <b>)))"},
	} {
		wantShown(t, Expr, c[0], c[1])
	}
}

// 12.1: if and match, where they stand as expressions.
func TestBranches(t *testing.T) {
	for _, c := range [][2]string{
		{"if a { }", "If <if a { }>(Var a <a>, Block <{ }>)"}, {"if a { } else { }", "If <if a { } else { }>(Var a <a>, Block <{ }>, Block <{ }>)"},
		{"if a { } else if b { }", "If <if a { } else if b { }>(Var a <a>, Block <{ }>, If <if b { }>(Var b <b>, Block <{ }>))"},
		{"if a { } else if b { } else { }", "If(Var a, Block, If(Var b, Block, Block))"}, {"if a { } else if b { } else if c { } else { }", "If(Var a, Block, If(Var b, Block, If(Var c, Block, Block)))"},
		{"if if a { b } else { c } { d }", "If(If(Var a, Block 1(Var b), Block 1(Var c)), Block 1(Var d))"}, {"if if a { b } { c } else { d }", "If(If(Var a, Block 1(Var b)), Block 1(Var c), Block 1(Var d))"}, {"if { a } { b }", "If(Block 1(Var a), Block 1(Var b))"},
		{"if match a { } { }", "If(Match(Var a), Block)"}, {"if { a } . b == - { c } { }", "If(Bin ==(Get b(Block 1(Var a)), Neg(Block 1(Var c))), Block)"},
		{"match a { }", "Match <match a { }>(Var a <a>)"}, {"match (a) { _ => 1 }", "Match <match (a) { _ => 1 }>(Var a <a>, Arm <_ => 1>(PAny <_>, Num 1 <1>))"},
		{"match a { x => 1 , }", "Match <match a { x => 1 , }>(Var a <a>, Arm <x => 1 ,>(PVar x <x>, Num 1 <1>))"}, {"match a { x => (1) }", "Match <match a { x => (1) }>(Var a <a>, Arm <x => (1)>(PVar x <x>, Num 1 <1>))"},
		{"match a { 1 => { } 2 => { } , 3 => b }", "Match <match a { 1 => { } 2 => { } , 3 => b }>(Var a <a>, Arm <1 => { }>(PNum 1 <1>, Block <{ }>), Arm <2 => { } ,>(PNum 2 <2>, Block <{ }>), Arm <3 => b>(PNum 3 <3>, Var b <b>))"},
		{"match a { 1 => { } -2 => { } }", "Match(Var a, Arm(PNum 1, Block), Arm(PNum -2, Block))"}, {"match a { 1 => ({ } - 2), _ => 3, }", "Match(Var a, Arm(PNum 1, Bin -(Block, Num 2)), Arm(PAny, Num 3))"},
		{"match a { 1 => if b { } else { } - 2, _ => if b { } }", "Match(Var a, Arm(PNum 1, Bin -(If(Var b, Block, Block), Num 2)), Arm(PAny, If(Var b, Block)))"}, {"match a { _ => match b { } , }", "Match(Var a, Arm(PAny, Match(Var b)))"},
		{"match { a } { _ => { } }", "Match(Block 1(Var a), Arm(PAny, Block))"}, {"match a { E::V(x) => S { a: x }, true => f(x) }", "Match(Var a, Arm(PPick E::V(PVar x), Make S(Init a(Var x))), Arm(PTruth 1, Call f(Var x)))"},
	} {
		wantShown(t, Expr, c[0], c[1])
	}
}

// Rule (b): in a cond a name ahead of { is that name alone, but within brackets of the cond it is not.
func TestNamesInConds(t *testing.T) {
	for _, c := range [][2]string{
		{"if S { }", "If(Var S, Block)"}, {"if S { } else { }", "If(Var S, Block, Block)"}, {"if S { a }", "If(Var S, Block 1(Var a))"}, {"match S { }", "Match(Var S)"}, {"match S { a => 1 }", "Match(Var S, Arm(PVar a, Num 1))"}, {"if -S { }", "If(Neg(Var S), Block)"},
		{"if a == S { }", "If(Bin ==(Var a, Var S), Block)"}, {"if a && b || *S { }", "If(Bin ||(Bin &&(Var a, Var b), Star(Var S)), Block)"}, {"if &mut S { }", "If(Borrow 1(Var S), Block)"}, {"if S.a { }", "If(Get a(Var S), Block)"}, {"if a.S { }", "If(Get S(Var a), Block)"},
		{"if a { } else if S { }", "If(Var a, Block, If(Var S, Block))"}, {"if if S { } else { } { }", "If(If(Var S, Block, Block), Block)"}, {"if match S { } { }", "If(Match(Var S), Block)"}, {"if a == if S { } { }", "If(Bin ==(Var a, If(Var S, Block)), Block)"},
		{"if (S { }) { }", "If(Make S, Block)"}, {"if ((S { }).a) { }", "If(Get a(Make S), Block)"}, {"if f(S { }) { }", "If(Call f(Make S), Block)"}, {"if f(a, S { a: S { } }) { }", "If(Call f(Var a, Make S(Init a(Make S))), Block)"}, {"if E::V(S { }) { }", "If(Pick E::V(Make S), Block)"},
		{"if Box::new(S { }) { }", "If(New(Make S), Block)"}, {"if { S { } } { }", "If(Block 1(Make S), Block)"}, {"if { let x = S { }; x } { }", "If(Block 1(Let x(Make S), Var x), Block)"}, {"if { if S { } else { } } { }", "If(Block 1(If(Var S, Block, Block)), Block)"},
		{"if match a { _ => S { } } { }", "If(Match(Var a, Arm(PAny, Make S)), Block)"}, {"if match a { _ => { S { } } } { }", "If(Match(Var a, Arm(PAny, Block 1(Make S))), Block)"}, {"if if a { S { } } else { S { } } { }", "If(If(Var a, Block 1(Make S), Block 1(Make S)), Block)"},
		{"if (S { }) == S { }", "If(Bin ==(Make S, Var S), Block)"}, {"if f(S { }).S { }", "If(Get S(Call f(Make S)), Block)"}, {"(if S { })", "If(Var S, Block)"}, {"f(if S { })", "Call f(If(Var S, Block))"}, {"S { a: if S { } }", "Make S(Init a(If(Var S, Block)))"},
		{"if a { } else { S { } }", "If(Var a, Block, Block 1(Make S))"}, {"if a { S { } }", "If(Var a, Block 1(Make S))"}, {"{ while S { } S { } }", "Block 1(While(Var S, Block), Make S)"}, {"{ while (S { }) { S { } } }", "Block(While(Make S, Block 1(Make S)))"},
		{"-S { }", "Neg(Make S)"}, {"a == S { }", "Bin ==(Var a, Make S)"}, {"if S { } == S { }", "Bin ==(If(Var S, Block), Make S)"}, {"if E::V { }", "If(Pick E::V, Block)"},
	} {
		wantShown(t, Expr, c[0], c[1])
	}
}

// 12.1, 12.2: the first token that can not stand where it stands, marked with [ ].
func TestFirstErrors(t *testing.T) {
	for n, list := range [][]string{
		{
			"[x]", "fn[]", "fn [1]", "fn f[]", "fn f [{] }", "fn f([,]) {}", "fn f(a[)] {}", "fn f(a[,]) {}", "fn f(a: [)] {}", "fn f(mut [mut] a: i64) {}", "fn f(a: i64 [b]: i64) {}", "fn f(a: i64,[,]) {}", "fn f()[]", "fn f() [;]", "fn f() -> [{] }",
			"fn f() -> i64[]", "fn f() -> i64 [;]", "fn f() { }[}]", "fn f() { }[;]", "fn [fn]() {}", "fn [_]() {}", "fn [Box]() {}", "fn f(a: [_]) {}", "struct[]", "struct S [;]", "struct S[(]i64) {}", "struct S { [,] }", "struct S { [mut] a: i64 }", "struct S { a[,] }",
			"struct S { a: i64[;] }", "struct S { a: i64,[]", "enum E { A([)] }", "enum E { A(i64[,]) }", "enum E { A [:] }", "enum E { A(i64) [B] }", "enum E { A [{]} }", "struct S { a: [&&] i64 }", "struct S { a: Box<i64[>=] }", "[let] x = 1;", "[{]}", "[pub] fn f() {}",
			"fn main() { 1 + [}]", "fn main() { a < b [<] c }", "fn main() { if a { 1 } else { 2 } [+] 3 }", "fn main() { let x[;] }", "fn main() { match x { 1 => 2 [3] => 4 } }", "fn main() { [&&]a }", "fn main() { a = b [=] c; }",
			"fn main() { [;] }", "fn main() { 1;[;] }", "fn main() { while a { }[;] }", "fn main() { { };[;] }", "fn main() { 1 [2] }", "fn main() { return 1 [}]", "fn main() { break [}]", "fn main() { break [1]; }", "fn main() { continue [}]", "fn main() { let [_] = 1; }",
			"fn main() { let mut [mut] x = 1; }", "fn main() { let x: i64[;] }", "fn main() { let x [==] 1; }", "fn main() { let x = [;] }", "fn main() { let x = 1 [}]", "fn main() { x = 1 [}]", "fn main() { [else] { } }", "fn main() { if a { } else [a] }", "fn main() { [fn] f() {} }",
			"fn main() { if a { }[.]b }", "fn main() { { 1 } [.] b }", "fn main() { { 1 } [=] 2; }", "fn main() { match a { } [==] 2 }", "fn main() { if a { } [&&] b }", "fn main() { { 1 } [,] }", "fn main() { if a [;] }", "fn main() { if { }[]", "fn main() { if [}]", "fn main() { while { }[]", "fn main() { while [;]", "fn main() { x[)] }", "fn main() { (x[}]",
			"fn main() {[]", "fn main() { {[]", "fn main() { { }[]", "fn main() { return[]", "fn main() { return [let] x = 1; }", "fn main() { f(1[;]) }", "fn main() { match a { 1 [}]", "fn main() { match a { 1 => [}]", "fn main() { match a { 1 => 2,[,] } }", "fn main() { match a { [,] } }",
			"fn main() { match a { 1 => { } - [a] => { } } }", "fn main() { match a { 1 => { } [+] 1, } }", "fn main() { match a { 1 => { } [.] a } }", "fn main() { match a { 1 => { },[,] } }", "fn main() { match a { S [{] } => 1 } }", "fn main() { match a { 1 => 2[;] } }",
		},
		{
			"[]", "[;]", "[=]", "[)]", "1 [2]", "a [b]", "a [;]", "a [=] b", "f([,])", "f(a,[,])", "f(a [b])", "f(a[}]", "f([]", "([,])", "(a[,] b)", "(a[]", "([]", "E::[1]", "E::[]", "E::V([)]", "E::V(a[,])", "E::V [{] }", "E::V[::]W", "Box[]", "Box[(]1)", "Box::[old](1)", "Box::new[]", "Box::new([)]", "Box::new(1[,])",
			"Box::[fn]", "S { [1] }", "S { a[}]", "S { a: [}]", "S { a: 1 [b]: 2 }", "S { a: 1[;] }", "S { [mut] a: 1 }", "S { a: 1,[,] }", "a.[1]", "a.[]", "a.b[(]1)", "a.[mut]", "-[]", "--[]", "-[+]", "&mut [mut] a", "& [&&] a", "[mut] a", "a == b [==] c", "a < b [>] c", "a && b == c [!=] d", "a < b + c [<] d", "!a < b [<] c",
			"a + [+] b", "a [!] b", "a + *[]", "a * [/] b", "a [:] b", "a ::[+]", "if a[]", "if a { } else[]", "if S { a[:] 1 } { }", "if S { } [{] }", "if a { [:] }", "match a[]", "match a [=>]", "match a { 1 [=] 2 }", "match a { 1 => 2 } [{] }", "if (S { }[{]) { }", "if a == (S { a[}]", "[let] x = 1", "[_]", "a + [_]", "[i64]", "[return]", "{ [=] }", "true [false]",
			"1 < 2 [<] 3", "a [->] b", "a [=>] b", "a[,]", "f(1,[,] 2)",
		},
		{"[]", "[1]", "[_]", "[<]", "[*]", "[mut] i64", "i64 [i64]", "S [<] i64 >", "S [::] T", "([i64])", "([]", "&[]", "& mut [mut] i64", "[&&] i64", "& [&&] i64", "Box[]", "Box [::] new", "Box<[>]", "Box<i64[]", "Box<i64[,]>", "Box<i64>[>]", "Box<Box<i64>[]", "[true]", "i64[;]", "&mut[]", "[fn]", "Box<i64[>=]"},
		{"[]", "[+]", "-[-]", "- [a]", "-[]", "_ [_]", "1 [1]", "[!]", "[(] a )", "a [(] b )", "a::[]", "a::[_]", "a::b([)]", "a::b(1[,])", "a::b(1[]", "a::b [::] c", "[&] a", "[Box]", "[i64]", "a [=>] 1", "[mut] a", "a::b [{] }", "true[::]", "1 [.]. 2", "E::V(_ [||])"},
	} {
		for _, marked := range list {
			wantMarked(t, entries[n].read, marked)
		}
	}
}

// wantMarked holds what is told of a source without its mark to that mark.
func wantMarked(t *testing.T, read func(string) (api.Tree, api.Diag), marked string) {
	t.Helper()
	ahead, rest, opened := strings.Cut(marked, "[")
	text, behind, closed := strings.Cut(rest, "]")
	if !opened || !closed {
		t.Fatalf("%q has no mark", marked)
	}
	source := ahead + text + behind
	tree, d := read(source)
	wantAnswer(t, source, tree, d)
	if d != (api.Diag{Code: api.ErrExpect, From: len(ahead), To: len(ahead) + len(text)}) {
		t.Errorf("%q: %v", marked, d)
	}
}

// 12.1: the error of a source that ends too soon stands at its end, behind blanks and remarks.
func TestErrorsAtTheEnd(t *testing.T) {
	for _, behind := range []string{"", " ", "\n", " // \u00e9", "//\n\n"} {
		source := "fn main() {" + behind
		if _, d := Parse(source); d != (api.Diag{Code: api.ErrExpect, From: len(source), To: len(source)}) {
			t.Errorf("%q: %v", source, d)
		}
		for _, e := range entries[1:] {
			if _, d := e.read(behind); d != (api.Diag{Code: api.ErrExpect, From: len(behind), To: len(behind)}) {
				t.Errorf("%s: %q: %v", e.root, behind, d)
			}
		}
	}
}

// An error is wrapped once for each deep thing that it comes up out of, and is found within.
func TestWrappedErrors(t *testing.T) {
	p := &parser{tokens: tokensOf(t, "f(-{ x = ; })")}
	_, err := p.expr()
	if err == nil || err.Error() != "expr: expr: operand: block: error 120" {
		t.Fatal(err)
	}
	var f *fault
	if !errors.As(err, &f) || f.diag != (api.Diag{Code: api.ErrExpect, From: 9, To: 10}) {
		t.Error(err)
	}
}

// R3: an answer shares nothing with the source or with another answer, and no two lists of it share anything, spare room too.
func TestTreesAreNew(t *testing.T) {
	source := "struct S { a: i64, } enum E { V(S), W } fn f(mut a: &mut S, b: E) -> Box<i64> { let x: i64 = f(1, a.b + 2); match b { E::V(s) => { }, _ => { s = S { a: 1 }; } } while x == 1 { break; } Box::new(E::V(x)) }"
	a, d := Parse(source)
	b, _ := Parse(source)
	if d.Code != api.OK {
		t.Fatal(d)
	}
	low := uintptr(unsafe.Pointer(unsafe.StringData(source)))
	for _, x := range a.Nodes {
		if p := uintptr(unsafe.Pointer(unsafe.StringData(x.Name))); x.Name != "" && p >= low && p < low+uintptr(len(source)) {
			t.Errorf("%q is a piece of the source", x.Name)
		}
	}
	before, _ := Parse(source)
	for n := range a.Nodes {
		kids := a.Nodes[n].Kids
		kids = kids[:cap(kids)]
		for k := range kids {
			kids[k] = -n - 1
		}
	}
	for n, x := range a.Nodes { // what was written to a list is in that list alone
		for _, k := range x.Kids[:cap(x.Kids)] {
			if k != -n-1 {
				t.Fatalf("the kids of %d share memory with others", n)
			}
		}
	}
	for n := range a.Nodes[:cap(a.Nodes)] {
		a.Nodes[:cap(a.Nodes)][n] = api.Node{Kind: 99}
	}
	if again, _ := Parse(source); !slices.EqualFunc(b.Nodes, before.Nodes, sameNode) || !slices.EqualFunc(again.Nodes, before.Nodes, sameNode) {
		t.Error("an answer changed with another one")
	}
}
