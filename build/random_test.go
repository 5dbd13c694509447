package build

import (
	"math/rand"
	"reflect"
	"testing"

	"patina/api"
	"patina/check"
	"patina/mir"
	"patina/parse"
	"patina/sourcetest"
)

// typedOf is the typed tree of a source that is right.
func typedOf(t *testing.T, source string) api.Typed {
	t.Helper()
	x, d := parse.Parse(source)
	if d.Code != api.OK {
		t.Fatalf("%v at %.40q of %.3000s", d, source[d.From:], source)
	}
	u, d := check.Of(x)
	if d.Code != api.OK {
		t.Fatalf("%v at %.40q of %.3000s", d, source[d.From:], source)
	}
	return u
}

// alike tells whether two things are the same, lists without an element being all alike.
func alike(a, b any) bool {
	return reflect.DeepEqual(plain(reflect.ValueOf(a)).Interface(), plain(reflect.ValueOf(b)).Interface())
}

// plain is a value in new memory, whose lists without an element are nil.
func plain(v reflect.Value) reflect.Value {
	switch v.Kind() {
	case reflect.Struct:
		c := reflect.New(v.Type()).Elem()
		for k := range v.NumField() {
			c.Field(k).Set(plain(v.Field(k)))
		}
		return c
	case reflect.Slice:
		c := reflect.Zero(v.Type())
		for k := range v.Len() {
			c = reflect.Append(c, plain(v.Index(k)))
		}
		return c
	}
	return v
}

// 20.1: made sources are the MIR that the chapter's words tell, in each field.
func TestMadeSources(t *testing.T) {
	r := rand.New(rand.NewSource(20))
	for range 400 {
		m := &sourcetest.Maker{Choose: r.Intn}
		source := m.Source(r.Intn(4))
		u := typedOf(t, source)
		if r.Intn(2) == 0 {
			u, _ = check.Of(sourcetest.Shuffled(r.Intn, u.Tree))
		}
		want, wd := modelOf(u)
		got, d := Of(u)
		if d != wd || !alike(got, want) {
			for f := range got.Fns {
				a, _ := mir.Text(got, f)
				b, _ := mir.Text(want, f)
				if a != b {
					t.Fatalf("%v %v\n%s\nnot\n%s\n%s", d, wd, a, b, source)
				}
			}
			t.Fatalf("%v %v\n%s", d, wd, source)
		}
		if e := mir.Check(got); e != api.OK {
			t.Fatal(e, source)
		}
	}
}
