// Package apart holds layers that take typed trees and MIR to R3: what is handed in is not changed, and answers share no memory with it, nor with each other.
package apart

import (
	"bytes"
	"math/rand"
	"reflect"
	"runtime"
	"slices"
	"testing"

	"patina/api"
	"patina/build"
	"patina/check"
	"patina/desk"
	"patina/driver"
	"patina/drops"
	"patina/isel"
	"patina/loans"
	"patina/mirtest"
	"patina/moves"
	"patina/opt"
	"patina/parse"
	"patina/sourcetest"
)

// room is where a list lies in memory, with its spare room.
type room struct{ from, to uintptr }

// rooms are those of all lists below a value.
func rooms(v reflect.Value) []room {
	var l []room
	switch v.Kind() {
	case reflect.Struct:
		for k := range v.NumField() {
			l = append(l, rooms(v.Field(k))...)
		}
	case reflect.Slice:
		if v.Cap() > 0 {
			l = append(l, room{v.Pointer(), v.Pointer() + uintptr(v.Cap())*v.Type().Elem().Size()})
		}
		for k := range v.Len() {
			if v.Type().Elem().Kind() != reflect.Uint8 { // of an image there are many
				l = append(l, rooms(v.Index(k))...)
			}
		}
	}
	return l
}

// copyOf is a value in new memory; lists without an element are nil.
func copyOf(v reflect.Value) reflect.Value {
	switch v.Kind() {
	case reflect.Struct:
		c := reflect.New(v.Type()).Elem()
		for k := range v.NumField() {
			c.Field(k).Set(copyOf(v.Field(k)))
		}
		return c
	case reflect.Slice:
		if b, is := v.Interface().([]byte); is {
			return reflect.ValueOf(bytes.Clone(b))
		}
		c := reflect.Zero(v.Type())
		for k := range v.Len() {
			c = reflect.Append(c, copyOf(v.Index(k)))
		}
		return c
	}
	return v
}

// shared tells whether two lists of values lie in one another's room.
func shared(values []any) bool {
	var l []room
	for _, x := range values {
		l = append(l, rooms(reflect.ValueOf(x))...)
	}
	slices.SortFunc(l, func(a, b room) int {
		if a.from < b.from {
			return -1
		}
		return 1
	})
	for k := 1; k < len(l); k++ {
		if l[k].from < l[k-1].to {
			return true
		}
	}
	return false
}

// wantApart asks for answers about a value, twice, and holds them and it to R3.
func wantApart(t *testing.T, x any, ask func() []any) {
	t.Helper()
	before := copyOf(reflect.ValueOf(x)).Interface()
	kept := append(ask(), ask()...) // all of them, so that no memory is given out twice
	if shared(append(kept, x)) {
		t.Fatal("two lists share their room")
	}
	runtime.KeepAlive(kept)
	if !reflect.DeepEqual(copyOf(reflect.ValueOf(x)).Interface(), before) {
		t.Fatal("changed")
	}
}

// A list that shares its room, if only its spare room, is found; so is one behind lists.
func TestShared(t *testing.T) {
	l := make([]int, 3, 8)
	for _, c := range []struct {
		values []any
		want   bool
	}{
		{[]any{l, slices.Clone(l)}, false}, {[]any{l, l}, true}, {[]any{l, l[1:2]}, true}, {[]any{l[:1:1], l[1:]}, false}, {[]any{l[:1], l[5:6]}, true}, {[]any{api.Place{Path: l}, []api.Place{{}, {Path: l}}}, true}, {[]any{api.Place{Path: l}, []api.Place{{}, {}}}, false}, {[]any{l[:0], l[:0]}, true}, {[]any{[]int{}, []int{}}, false},
	} {
		if shared(c.values) != c.want {
			t.Error(c)
		}
	}
}

// typedOf is the typed tree of a made source.
func typedOf(r *rand.Rand) (api.Typed, bool) {
	tree, _ := parse.Parse((&sourcetest.Maker{Choose: r.Intn}).Source(2))
	u, d := check.Of(tree)
	return u, d.Code == api.OK
}

func TestBuild(t *testing.T) {
	r := rand.New(rand.NewSource(206))
	for range 40 {
		u, right := typedOf(r)
		if !right {
			t.Fatal("not right")
		}
		numbers := r.Perm(len(u.Tree.Nodes))[:20]
		wantApart(t, u, func() []any {
			m, _ := build.Of(u)
			l := []any{m}
			for f := range u.Items.Fns {
				locals, _ := build.Locals(u, f)
				l = append(l, locals)
			}
			for _, n := range numbers {
				p, _ := build.Place(u, n)
				l = append(l, p)
			}
			return l
		})
	}
}

// programs are made MIR, and what build makes of sources, with room to spare in lists.
func programs(r *rand.Rand, count int) []api.Mir {
	var l []api.Mir
	for range count {
		l = append(l, (&mirtest.Maker{Choose: r.Intn}).Program(), (&mirtest.Maker{Choose: r.Intn, Copied: true}).Program())
		if u, right := typedOf(r); right {
			m, _ := build.Of(u)
			l = append(l, m)
		}
	}
	for _, m := range l {
		for f := range m.Fns {
			for b := range m.Fns[f].Blocks {
				block := &m.Fns[f].Blocks[b]
				block.Stmts = slices.Grow(block.Stmts, 3)
				block.Term.To = slices.Grow(block.Term.To, 3)
			}
		}
	}
	return l
}

// points are a block of each function, and a number in it.
func points(r *rand.Rand, m api.Mir) [][3]int {
	var l [][3]int
	for f, fn := range m.Fns {
		b := r.Intn(len(fn.Blocks))
		l = append(l, [3]int{f, b, r.Intn(len(fn.Blocks[b].Stmts) + 1)})
	}
	return l
}

func TestMoves(t *testing.T) {
	r := rand.New(rand.NewSource(223))
	for _, m := range programs(r, 15) {
		l := points(r, m)
		wantApart(t, m, func() []any {
			var kept []any
			for _, p := range l {
				a, _ := moves.Maybe(m, p[0], p[1], p[2])
				b, _ := moves.Sure(m, p[0], p[1], p[2])
				c, d, _ := moves.Uses(m, p[0], p[1], p[2])
				e, _ := moves.Reached(m, p[0])
				kept = append(kept, a, b, c, d, e)
			}
			return append(kept, moves.Check(m))
		})
	}
}

func TestDrops(t *testing.T) {
	r := rand.New(rand.NewSource(233))
	for _, m := range programs(r, 40) {
		wantApart(t, m, func() []any {
			made, e := drops.Make(m)
			if e != api.OK {
				t.Fatal(e)
			}
			kept := []any{made}
			for f := range m.Fns {
				l, _ := drops.Edges(m, f)
				kept = append(kept, l)
			}
			return kept
		})
	}
}

func TestOpt(t *testing.T) {
	r := rand.New(rand.NewSource(253))
	for _, m := range programs(r, 40) {
		wantApart(t, m, func() []any {
			made, e := opt.Make(m)
			if e != api.OK {
				t.Fatal(e)
			}
			return []any{made}
		})
	}
}

// What is compiled and run: an image and an input with room to spare.
func TestDriver(t *testing.T) {
	r := rand.New(rand.NewSource(273))
	source := "fn main() { while true { print(read()); } }"
	for range 12 {
		image, d := driver.Compile(source)
		x := struct{ Image, In []byte }{slices.Grow(image, 9), slices.Grow([]byte("\x00\x01\x02\x03"), 9)}
		wantApart(t, x, func() []any {
			m, _ := driver.Front(source)
			b, _ := driver.Compile(source)
			o, e := driver.Run(x.Image, x.In, 500)
			s, _ := driver.Source(source, x.In, 50)
			_, f := driver.Cost(x.Image)
			_, _, g := desk.Agrees(source, x.In, 50)
			if d.Code+e+f+g.Code != api.OK {
				t.Fatal(d, e, f, g)
			}
			return []any{m, b, o, s}
		})
		source = (&sourcetest.Maker{Choose: r.Intn}).Grown(12, 2, func(source string) bool {
			_, d := driver.Front(source)
			return d.Code == api.OK
		})
	}
}

func TestIsel(t *testing.T) {
	r := rand.New(rand.NewSource(263))
	for _, m := range programs(r, 40) {
		wantApart(t, m, func() []any {
			l, e := isel.Make(m)
			if e != api.OK {
				t.Fatal(e)
			}
			return []any{l}
		})
	}
}

func TestLoans(t *testing.T) {
	r := rand.New(rand.NewSource(243))
	for _, m := range programs(r, 15) {
		l := points(r, m)
		wantApart(t, m, func() []any {
			kept := []any{loans.Check(m)}
			for _, p := range l {
				a, _ := loans.Loans(m, p[0])
				b, _ := loans.Facts(m, p[0])
				c, _ := loans.Holds(m, p[0], p[1], p[2])
				d, _ := loans.Alive(m, p[0], p[1], p[2])
				e, _ := loans.Live(m, p[0], p[1], p[2])
				f, _ := loans.Against(m, p[0], p[1], p[2])
				kept = append(kept, a, b, c, d, e, f)
			}
			return kept
		})
	}
}
