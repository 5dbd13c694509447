// Package language holds the program to the rules of shared/LANGUAGE.md that its text shows, and to the map of shared/DOC.md.
package language

import (
	"bytes"
	"go/ast"
	"go/format"
	"go/parser"
	"go/token"
	"os"
	"path/filepath"
	"strconv"
	"strings"
	"testing"
)

const library = "bytes cmp container/heap errors iter maps math math/bits slices sort strconv strings sync sync/atomic unicode unicode/utf8"

const mostLines = 60

// mayCall are the layers, in their order, and those that each may call; * are all ahead of it. Package api is everybody's.
var mayCall = [][2]string{
	{"rv", ""},
	{"mem", ""},
	{"cpu", "rv mem"},
	{"elf", ""},
	{"asm", "rv"},
	{"lir", ""},
	{"live", "lir"},
	{"color", "lir live"},
	{"emit", "rv lir live color"},
	{"rt", ""},
	{"lex", ""},
	{"parse", "lex"},
	{"tree", "lex"}, // chapter 13 says so, beyond the map
	{"items", "tree"},
	{"types", "tree items"}, // chapter 15 says so, beyond the map
	{"check", "tree items types"},
	{"cover", "tree types check"},
	{"eval", "types check"},
	{"mir", "items types"},
	{"build", "types check mir"},
	{"mirun", "types mir"},
	{"moves", "types mir"},
	{"drops", "types mir moves"},
	{"loans", "types mir"},
	{"opt", "types mir"},
	{"isel", "types mir lir"},
	{"driver", "cpu elf asm color emit rt parse check cover eval build moves drops loans opt isel"}, // all that chapter 27's words name
	{"desk", "*"},
}

func has(list, word string) bool { return strings.Contains(" "+list+" ", " "+word+" ") }

// place is a layer's place in the map; -1: it is none.
func place(name string) int {
	for i, row := range mayCall {
		if row[0] == name {
			return i
		}
	}
	return -1
}

// may tells whether a package may import another one of the project.
func may(from, to string) bool {
	i, k := place(from), place(to)
	if i < 0 || k < 0 {
		return from != "api"
	}
	if mayCall[i][1] == "*" {
		return k < i
	}
	return has(mayCall[i][1], to)
}

// sources are the program's own Go files, without tests.
func sources(t *testing.T) []string {
	t.Helper()
	all, err := filepath.Glob("../*/*.go")
	if err != nil || len(all) < len(mayCall) {
		t.Fatal(len(all), err)
	}
	var l []string
	for _, f := range all {
		if !strings.HasSuffix(f, "_test.go") {
			l = append(l, f)
		}
	}
	return l
}

func TestLanguage(t *testing.T) {
	for _, f := range sources(t) {
		text, err := os.ReadFile(f)
		if err != nil {
			t.Fatal(err)
		}
		files := token.NewFileSet()
		a, err := parser.ParseFile(files, f, text, parser.ParseComments)
		if err != nil {
			t.Fatal(err)
		}
		if nice, err := format.Source(text); err != nil || !bytes.Equal(nice, text) {
			t.Errorf("%s: not laid out as gofmt does", f)
		}
		if strings.Contains(string(text), "//go:") || strings.Contains(string(text), "// +build") {
			t.Errorf("%s: a line for the compiler", f)
		}
		lookAtImports(t, f, a)
		for _, d := range a.Decls {
			lookAtDeclaration(t, files, d)
		}
	}
}

func lookAtImports(t *testing.T, f string, a *ast.File) {
	for _, i := range a.Imports {
		path, _ := strconv.Unquote(i.Path.Value)
		name, own := strings.CutPrefix(path, "patina/")
		if own && !may(filepath.Base(filepath.Dir(f)), name) {
			t.Errorf("%s: may not call %s", f, name)
		}
		if !own && !has(library, path) {
			t.Errorf("%s: may not import %s", f, path)
		}
	}
}

func lookAtDeclaration(t *testing.T, files *token.FileSet, d ast.Decl) {
	at := files.Position(d.Pos())
	switch x := d.(type) {
	case *ast.FuncDecl:
		if n := files.Position(x.End()).Line - at.Line + 1; n > mostLines {
			t.Errorf("%v: %s has %d lines", at, x.Name.Name, n)
		}
		if x.Recv == nil && x.Name.Name == "init" {
			t.Errorf("%v: init", at)
		}
	case *ast.GenDecl:
		for _, s := range x.Specs {
			if v, ok := s.(*ast.ValueSpec); ok && x.Tok == token.VAR {
				lookAtVariable(t, files.Position(v.Pos()), v)
			}
		}
	}
}

// lookAtVariable holds a package's variable to a value that is written out: a list, or an error.
func lookAtVariable(t *testing.T, at token.Position, v *ast.ValueSpec) {
	if len(v.Values) != len(v.Names) {
		t.Errorf("%v: a variable without a value of its own", at)
	}
	for _, e := range v.Values {
		ast.Inspect(e, func(n ast.Node) bool {
			switch x := n.(type) {
			case *ast.MapType, *ast.FuncLit:
				t.Errorf("%v: a map or a function", at)
			case *ast.UnaryExpr:
				if x.Op == token.AND {
					t.Errorf("%v: a pointer", at)
				}
			case *ast.CallExpr:
				if s, ok := x.Fun.(*ast.SelectorExpr); !ok || s.Sel.Name != "New" {
					t.Errorf("%v: a value made by a call", at)
				}
			}
			return true
		})
	}
}

// The map's lines are held to what the map says of some of them.
func TestMap(t *testing.T) {
	for _, c := range []struct {
		from, to string
		may      bool
	}{
		{"rv", "api", true}, {"rv", "mem", false}, {"mem", "rv", false}, {"cpu", "rv", true}, {"cpu", "mem", true},
		{"rv", "cpu", false}, {"driver", "isel", true}, {"driver", "desk", false}, {"driver", "lir", false}, {"driver", "mirun", false}, {"desk", "driver", true}, {"api", "rv", false},
	} {
		if may(c.from, c.to) != c.may {
			t.Error(c)
		}
	}
	if len(mayCall) != 28 {
		t.Error("layers", len(mayCall))
	}
}
