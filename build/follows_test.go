package build

import (
	"maps"
	"math/rand"
	"reflect"
	"strconv"
	"strings"
	"testing"

	"patina/api"
	"patina/check"
	"patina/mir"
	"patina/sourcetest"
)

// wantOrdered holds a function to 20.3's first sentences, and to the order of its numbers: each block is come to, each temporary is named, blocks and temporaries in the order of their numbers.
func wantOrdered(t *testing.T, m api.Mir, f, named int) {
	t.Helper()
	fn := m.Fns[f]
	count := 0
	seen := make([]bool, len(fn.Blocks))
	var walk func(k int)
	walk = func(k int) {
		if seen[k] {
			return
		}
		if seen[k] = true; k != count {
			t.Fatal("block", k, "is come to as", count)
		}
		count++
		for _, to := range fn.Blocks[k].Term.To {
			walk(to)
		}
	}
	walk(0)
	if count != len(fn.Blocks) {
		t.Fatal("blocks", count, len(fn.Blocks))
	}
	next := named
	text, _ := mir.Text(m, f)
	for _, line := range strings.Split(text[strings.Index(text, "bb0"):], "\n") {
		left, right, isSet := strings.Cut(line, " = ")
		if !isSet {
			left, right = "", line
		}
		for _, word := range strings.Fields(right + " " + left) { // what is used stands behind the place in the text
			number, _, _ := strings.Cut(strings.TrimPrefix(word, "_"), ".")
			if k, err := strconv.Atoi(number); err == nil && word[0] == '_' && k >= next {
				if k != next {
					t.Fatal("temporary", k, "is named as", next, line)
				}
				next++
			}
		}
	}
	if next != len(fn.Locals) {
		t.Fatal("temporaries", next, len(fn.Locals))
	}
}

// wantBalanced holds a function to 20.3's last sentence: what has begun at a block is the same on each way to it, nothing begins twice, and at a TReturn all has ended.
func wantBalanced(t *testing.T, f api.MFn, source string) {
	t.Helper()
	begun := make([]map[int]int, len(f.Blocks))
	begun[0] = map[int]int{}
	for k := range f.Params {
		begun[0][k+1]++
	}
	order := []int{0}
	for len(order) > 0 {
		k := order[0]
		order = order[1:]
		now := maps.Clone(begun[k])
		for _, s := range f.Blocks[k].Stmts {
			switch s.Kind {
			case api.MLive:
				now[s.Place.Local]++
			case api.MDead:
				if now[s.Place.Local] != 1 {
					t.Fatal("ends without a beginning", s, source)
				}
				delete(now, s.Place.Local)
			}
			if now[s.Place.Local] > 1 {
				t.Fatal("begins twice", s, source)
			}
		}
		maps.DeleteFunc(now, func(k, n int) bool { return n == 0 })
		if f.Blocks[k].Term.Kind == api.TReturn && len(now) > 0 {
			t.Fatal("does not end", now, source)
		}
		for _, to := range f.Blocks[k].Term.To {
			if begun[to] == nil {
				begun[to] = now
				order = append(order, to)
			} else if !maps.Equal(begun[to], now) {
				t.Fatal("two ways", begun[to], now, source)
			}
		}
	}
}

// 20.3: what follows, of made sources.
func TestFollows(t *testing.T) {
	r := rand.New(rand.NewSource(203))
	for range 300 {
		m := &sourcetest.Maker{Choose: r.Intn}
		source := m.Source(r.Intn(4))
		u := typedOf(t, source)
		x, d := Of(u)
		if d.Code != api.OK {
			continue
		}
		if e := mir.Check(x); e != api.OK || !alike(x.Items, u.Items) || len(x.Fns) != len(u.Items.Fns) {
			t.Fatal(e, source)
		}
		for f, fn := range x.Fns {
			wantOrdered(t, x, f, len(u.Locals[f])+1)
			wantBalanced(t, fn, source)
		}
		if again, _ := Of(u); !reflect.DeepEqual(x, again) {
			t.Fatal("another time", source)
		}
	}
}

// bodiesApart are made sources that differ in all bodies but that of the function at a place.
func bodiesApart(r *rand.Rand, k int) (string, string) {
	a, b := &sourcetest.Maker{Choose: r.Intn}, &sourcetest.Maker{Choose: r.Intn}
	first, second := sourcetest.Types, sourcetest.Types
	for i, f := range sourcetest.Functions() {
		body := a.Function(f, 2, "f", "g", "h", "k", "l", "u", "two")
		first += body
		if i != k {
			body = b.Function(f, 1, "f", "u")
		}
		second += body
	}
	return first, second
}

// withoutPlaces is a function without places in the source, and without names.
func withoutPlaces(f api.MFn) api.MFn {
	f = plain(reflect.ValueOf(f)).Interface().(api.MFn)
	for k := range f.Blocks {
		f.Blocks[k].Term.At, f.Blocks[k].Term.Till = 0, 0
		for i := range f.Blocks[k].Stmts {
			f.Blocks[k].Stmts[i].From, f.Blocks[k].Stmts[i].To = 0, 0
		}
	}
	for k := range f.Locals {
		f.Locals[k].Name = ""
	}
	return f
}

// 20.4: other functions' bodies say nothing.
func TestOtherBodies(t *testing.T) {
	r := rand.New(rand.NewSource(204))
	for range 60 {
		for k := range sourcetest.Functions() {
			first, second := bodiesApart(r, k)
			a, d := Of(typedOf(t, first))
			b, e := Of(typedOf(t, second))
			if d.Code != api.OK || e.Code != api.OK {
				continue
			}
			if !alike(withoutPlaces(a.Fns[k]), withoutPlaces(b.Fns[k])) || k == 0 && !alike(a.Fns[k], b.Fns[k]) {
				t.Fatal(first, second)
			}
		}
	}
}

// 20.4: names of variables say nothing.
func TestNames(t *testing.T) {
	r := rand.New(rand.NewSource(205))
	for range 100 {
		m := &sourcetest.Maker{Choose: r.Intn}
		u := typedOf(t, m.Source(2))
		renamed := plain(reflect.ValueOf(u.Tree)).Interface().(api.Tree)
		for n, v := range u.Vars {
			if v >= 0 {
				renamed.Nodes[n].Name = "other" + strconv.Itoa(v)
			}
		}
		w, d := check.Of(renamed)
		if d.Code != api.OK {
			t.Fatal(d)
		}
		a, e := Of(u)
		b, g := Of(w)
		if e != g {
			t.Fatal(e, g)
		}
		for f := range a.Fns {
			for k, l := range b.Fns[f].Locals {
				if want := strings.Repeat("other"+strconv.Itoa(k-1), min(len(a.Fns[f].Locals[k].Name), 1)); l.Name != want {
					t.Fatal(l, want)
				}
			}
			for k := range b.Fns[f].Locals {
				b.Fns[f].Locals[k].Name = a.Fns[f].Locals[k].Name
			}
			if !alike(a.Fns[f], b.Fns[f]) {
				t.Fatal("another function", f)
			}
		}
	}
}
