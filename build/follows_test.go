package build

import (
	"maps"
	"math/rand"
	"reflect"
	"runtime"
	"slices"
	"strconv"
	"strings"
	"testing"

	"patina/api"
	"patina/check"
	"patina/mir"
)

// wantOrdered holds a function to 20.3's first sentences, and to the order of its numbers: each block is come to, each temporary is named, blocks and temporaries in the order of their numbers.
func wantOrdered(t *testing.T, m api.Mir, f, named int) {
	t.Helper()
	fn := m.Fns[f]
	count := 0
	seen := make([]bool, len(fn.Blocks))
	var walk func(k int)
	walk = func(k int) {
		if seen[k] {
			return
		}
		if seen[k] = true; k != count {
			t.Fatal("block", k, "is come to as", count)
		}
		count++
		for _, to := range fn.Blocks[k].Term.To {
			walk(to)
		}
	}
	walk(0)
	if count != len(fn.Blocks) {
		t.Fatal("blocks", count, len(fn.Blocks))
	}
	next := named
	text, _ := mir.Text(m, f)
	for _, line := range strings.Split(text[strings.Index(text, "bb0"):], "\n") {
		left, right, isSet := strings.Cut(line, " = ")
		if !isSet {
			left, right = "", line
		}
		for _, word := range strings.Fields(right + " " + left) { // what is used stands behind the place in the text
			number, _, _ := strings.Cut(strings.TrimPrefix(word, "_"), ".")
			if k, err := strconv.Atoi(number); err == nil && word[0] == '_' && k >= next {
				if k != next {
					t.Fatal("temporary", k, "is named as", next, line)
				}
				next++
			}
		}
	}
	if next != len(fn.Locals) {
		t.Fatal("temporaries", next, len(fn.Locals))
	}
}

// wantBalanced holds a function to 20.3's last sentence: what has begun at a block is the same on each way to it, nothing begins twice, and at a TReturn all has ended.
func wantBalanced(t *testing.T, f api.MFn, source string) {
	t.Helper()
	begun := make([]map[int]int, len(f.Blocks))
	begun[0] = map[int]int{}
	for k := range f.Params {
		begun[0][k+1]++
	}
	order := []int{0}
	for len(order) > 0 {
		k := order[0]
		order = order[1:]
		now := maps.Clone(begun[k])
		for _, s := range f.Blocks[k].Stmts {
			switch s.Kind {
			case api.MLive:
				now[s.Place.Local]++
			case api.MDead:
				if now[s.Place.Local] != 1 {
					t.Fatal("ends without a beginning", s, source)
				}
				delete(now, s.Place.Local)
			}
			if now[s.Place.Local] > 1 {
				t.Fatal("begins twice", s, source)
			}
		}
		maps.DeleteFunc(now, func(k, n int) bool { return n == 0 })
		if f.Blocks[k].Term.Kind == api.TReturn && len(now) > 0 {
			t.Fatal("does not end", now, source)
		}
		for _, to := range f.Blocks[k].Term.To {
			if begun[to] == nil {
				begun[to] = now
				order = append(order, to)
			} else if !maps.Equal(begun[to], now) {
				t.Fatal("two ways", begun[to], now, source)
			}
		}
	}
}

// 20.3: what follows, of made sources.
func TestFollows(t *testing.T) {
	r := rand.New(rand.NewSource(203))
	for range 300 {
		m := &maker{r: r}
		source := m.source(r.Intn(4))
		u := typedOf(t, source)
		x, d := Of(u)
		if d.Code != api.OK {
			continue
		}
		if e := mir.Check(x); e != api.OK || !alike(x.Items, u.Items) || len(x.Fns) != len(u.Items.Fns) {
			t.Fatal(e, source)
		}
		for f, fn := range x.Fns {
			wantOrdered(t, x, f, len(u.Locals[f])+1)
			wantBalanced(t, fn, source)
		}
		if again, _ := Of(u); !reflect.DeepEqual(x, again) {
			t.Fatal("another time", source)
		}
	}
}

// bodiesApart are made sources that differ in all bodies but that of the function at a place.
func bodiesApart(r *rand.Rand, k int) (string, string) {
	a, b := &maker{r: r}, &maker{r: r}
	first, second := madeTypes, madeTypes
	for i, f := range madeFns() {
		a.fns, b.fns = []string{"f", "g", "h", "k", "l", "u", "two"}, []string{"f", "u"}
		body := a.function(f, 2)
		first += body
		if i != k {
			body = b.function(f, 1)
		}
		second += body
	}
	return first, second
}

// withoutPlaces is a function without places in the source, and without names.
func withoutPlaces(f api.MFn) api.MFn {
	f = plain(reflect.ValueOf(f)).Interface().(api.MFn)
	for k := range f.Blocks {
		f.Blocks[k].Term.At, f.Blocks[k].Term.Till = 0, 0
		for i := range f.Blocks[k].Stmts {
			f.Blocks[k].Stmts[i].From, f.Blocks[k].Stmts[i].To = 0, 0
		}
	}
	for k := range f.Locals {
		f.Locals[k].Name = ""
	}
	return f
}

// 20.4: other functions' bodies say nothing.
func TestOtherBodies(t *testing.T) {
	r := rand.New(rand.NewSource(204))
	for range 60 {
		for k := range madeFns() {
			first, second := bodiesApart(r, k)
			a, d := Of(typedOf(t, first))
			b, e := Of(typedOf(t, second))
			if d.Code != api.OK || e.Code != api.OK {
				continue
			}
			if !alike(withoutPlaces(a.Fns[k]), withoutPlaces(b.Fns[k])) || k == 0 && !alike(a.Fns[k], b.Fns[k]) {
				t.Fatal(first, second)
			}
		}
	}
}

// 20.4: names of variables say nothing.
func TestNames(t *testing.T) {
	r := rand.New(rand.NewSource(205))
	for range 100 {
		m := &maker{r: r}
		u := typedOf(t, m.source(2))
		renamed := plain(reflect.ValueOf(u.Tree)).Interface().(api.Tree)
		for n, v := range u.Vars {
			if v >= 0 {
				renamed.Nodes[n].Name = "other" + strconv.Itoa(v)
			}
		}
		w, d := check.Of(renamed)
		if d.Code != api.OK {
			t.Fatal(d)
		}
		a, e := Of(u)
		b, g := Of(w)
		if e != g {
			t.Fatal(e, g)
		}
		for f := range a.Fns {
			for k, l := range b.Fns[f].Locals {
				if want := strings.Repeat("other"+strconv.Itoa(k-1), min(len(a.Fns[f].Locals[k].Name), 1)); l.Name != want {
					t.Fatal(l, want)
				}
			}
			for k := range b.Fns[f].Locals {
				b.Fns[f].Locals[k].Name = a.Fns[f].Locals[k].Name
			}
			if !alike(a.Fns[f], b.Fns[f]) {
				t.Fatal("another function", f)
			}
		}
	}
}

// room is where a list lies in memory, with its spare room.
type room struct{ from, to uintptr }

// rooms are those of all lists below a value.
func rooms(v reflect.Value) []room {
	var l []room
	switch v.Kind() {
	case reflect.Struct:
		for k := range v.NumField() {
			l = append(l, rooms(v.Field(k))...)
		}
	case reflect.Slice:
		if v.Cap() > 0 {
			l = append(l, room{v.Pointer(), v.Pointer() + uintptr(v.Cap())*v.Type().Elem().Size()})
		}
		for k := range v.Len() {
			l = append(l, rooms(v.Index(k))...)
		}
	}
	return l
}

// wantApart holds lists to lie in no other one's room.
func wantApart(t *testing.T, l []room) {
	t.Helper()
	slices.SortFunc(l, func(a, b room) int {
		if a.from < b.from {
			return -1
		}
		return 1
	})
	for k := 1; k < len(l); k++ {
		if l[k].from < l[k-1].to {
			t.Fatal("two lists share their room")
		}
	}
}

// R3: answers share no memory with what is handed in, or with each other; what is handed in is not changed.
func TestMemory(t *testing.T) {
	r := rand.New(rand.NewSource(206))
	for range 40 {
		m := &maker{r: r}
		u := typedOf(t, m.source(2))
		old := plain(reflect.ValueOf(u))
		a, d := Of(u)
		b, _ := Of(u)
		if d.Code != api.OK {
			continue
		}
		kept := []any{u, a, b} // all of them, so that no memory is given out twice
		for f := range u.Items.Fns {
			first, _ := Locals(u, f)
			second, _ := Locals(u, f)
			kept = append(kept, first, second)
		}
		for range 20 {
			n := r.Intn(len(u.Tree.Nodes))
			first, _ := Place(u, n)
			second, _ := Place(u, n)
			kept = append(kept, first, second)
		}
		var l []room
		for _, x := range kept {
			l = append(l, rooms(reflect.ValueOf(x))...)
		}
		wantApart(t, l)
		runtime.KeepAlive(kept)
		if !reflect.DeepEqual(plain(reflect.ValueOf(u)).Interface(), old.Interface()) {
			t.Fatal("changed")
		}
	}
}
