package mem

import (
	"bytes"
	"math"
	"math/rand"
	"testing"

	"patina/api"
)

// 2.5: Pages are told by Base, whatever the order in which they were made.
func TestPagesInOrder(t *testing.T) {
	m := New()
	r := rand.New(rand.NewSource(1))
	for _, k := range r.Perm(300) {
		want(t, "Map", m.Map(uint64(k)*3*size, rw, 2*size), api.OK)
	}
	l := m.Pages()
	if len(l) != 600 {
		t.Fatal(len(l))
	}
	for i := 1; i < len(l); i++ {
		if l[i-1].Base >= l[i].Base {
			t.Error("order", i, l[i-1].Base, l[i].Base)
		}
	}
}

// 2.5: what is done to a memory is not seen in its clone, nor the other way round.
func TestClone(t *testing.T) {
	m := made(t, 4096, rw, 8192, rx)
	c := m.Clone()
	if !Same(m, c) {
		t.Fatal("Clone")
	}
	changes := []func(x *Mem){
		func(x *Mem) { x.Store(4096, 8, 99) },
		func(x *Mem) { x.Poke(8192, []byte{77}) },
		func(x *Mem) { x.Map(0, 4, 1) },
	}
	for _, f := range changes {
		a, b := m.Clone(), m.Clone()
		f(a)
		if !samePages(b.Pages(), m.Pages()) || !samePages(c.Pages(), m.Pages()) || Same(a, m) {
			t.Error("a change of a clone")
		}
		a = m.Clone()
		b = a.Clone()
		f(a)
		if !samePages(b.Pages(), m.Pages()) {
			t.Error("a change of what was cloned")
		}
	}
}

// 2.5: Same is told by Base, Perm and bytes, and whichever is first.
func TestSame(t *testing.T) {
	m := made(t, 4096, rw, 8192, rx)
	last := m.Clone()
	last.Poke(3*size-1, []byte{1})
	for _, c := range []struct {
		what string
		m    *Mem
		same bool
	}{
		{"itself", m, true},
		{"another one", made(t, 4096, rw, 8192, rx), true},
		{"a page less", made(t, 4096, rw), false},
		{"a page more", made(t, 4096, rw, 8192, rx, 12288, rx), false},
		{"another Base", made(t, 4096, rw, 12288, rx), false},
		{"another Perm", made(t, 4096, rw, 8192, api.PermRead), false},
		{"another byte", last, false},
		{"none", nil, false},
		{"New's", New(), false},
	} {
		if Same(m, c.m) != c.same || Same(c.m, m) != c.same {
			t.Error(c.what)
		}
	}
	if !Same(nil, nil) || !Same(nil, New()) || !Same(New(), nil) || !Same(New(), New()) {
		t.Error("memories without pages")
	}
}

// 2.5, R6, P1: a nil memory answers as New's, and keeps nothing; so does a Mem that New did not make, but that it keeps.
func TestNilAndZero(t *testing.T) {
	var none *Mem
	for _, m := range []*Mem{none, New(), {}} {
		_, e := m.Load(0, 8)
		want(t, "Load", e, api.ErrPage)
		_, e = m.Load(0, 3)
		want(t, "Load", e, api.ErrArg)
		want(t, "Store", m.Store(0, 1, 1), api.ErrPage)
		want(t, "Store", m.Store(1<<48, 1, 1), api.ErrArg)
		_, e = m.Fetch(0)
		want(t, "Fetch", e, api.ErrPage)
		_, e = m.Fetch(2)
		want(t, "Fetch", e, api.ErrArg)
		b, e := m.Peek(0, 0)
		want(t, "Peek", e, api.OK)
		_, e = m.Peek(0, 1)
		want(t, "Peek", e, api.ErrPage)
		want(t, "Poke", m.Poke(0, nil), api.OK)
		want(t, "Poke", m.Poke(0, []byte{1}), api.ErrPage)
		if len(b) != 0 || len(m.Pages()) != 0 || m.Clone() == nil || len(m.Clone().Pages()) != 0 || !Same(m, New()) {
			t.Error("without pages")
		}
		want(t, "Map", m.Map(1, 4, 1), api.ErrArg)
		want(t, "Map", m.Map(0, 3, 1), api.ErrPerm)
		want(t, "Map", m.Map(0, 4, 1<<48), api.ErrPage)
		want(t, "Map", m.Map(0, 4, (api.MaxPages+1)*size), api.ErrPage)
		want(t, "Map", m.Map(4096, rw, 1), api.OK)
		kept := 1
		if m == nil {
			kept = 0
		}
		if len(m.Pages()) != kept || len(m.Clone().Pages()) != kept {
			t.Error("kept", len(m.Pages()))
		}
	}
	want(t, "Map twice of nil", none.Map(4096, rw, 1), api.OK)
	want(t, "Map of a clone of nil", none.Clone().Map(4096, rw, 1), api.OK)
}

// scribble writes over a list and its spare room.
func scribble(b []byte) {
	for i := range b[:cap(b)] {
		b[:cap(b)][i] ^= 0xff
	}
}

// R3: nothing is shared with arguments, answers, or what is kept; spare room neither.
func TestNothingIsShared(t *testing.T) {
	l := pagesOf(4096, rw, 8192, rx)
	one := make([]byte, 2*size)
	copy(one, l[0].Bytes)
	copy(one[size:], l[1].Bytes)
	l[0].Bytes, l[1].Bytes = one[:size], one[size:] // one's spare room is the other
	m, e := From(l)
	want(t, "From", e, api.OK)
	first := m.Clone().Pages()
	if !bytes.Equal(one[:size], first[0].Bytes) || !bytes.Equal(one[size:], first[1].Bytes) {
		t.Error("From changed what it was given")
	}
	scribble(one)
	l[0].Base, l[1].Perm = 0, 0
	if !samePages(m.Pages(), first) {
		t.Error("From keeps what it was given")
	}
	given := m.Pages()
	for i := range given[:cap(given)] {
		scribble(given[:cap(given)][i].Bytes)
		given[i%2].Base++
	}
	if !samePages(m.Pages(), first) {
		t.Error("Pages hands out what is kept")
	}
	given = m.Pages()
	scribble(given[0].Bytes)
	if !bytes.Equal(given[1].Bytes, first[1].Bytes) {
		t.Error("two lists of Pages share memory")
	}
	for _, at := range []uint64{4096, 5000, 8190} {
		b, _ := m.Peek(at, 4)
		scribble(b)
		b, _ = m.Peek(at, 0)
		scribble(b)
	}
	if !samePages(m.Pages(), first) {
		t.Error("Peek hands out what is kept")
	}
	b := []byte{1, 2, 3, 4, 5, 6, 7, 8}
	want(t, "Poke", m.Poke(8190, b[:4]), api.OK)
	if !bytes.Equal(b, []byte{1, 2, 3, 4, 5, 6, 7, 8}) {
		t.Error("Poke changed what it was given", b)
	}
	scribble(b)
	if b, _ := m.Peek(8190, 4); !bytes.Equal(b, []byte{1, 2, 3, 4}) {
		t.Error("Poke keeps what it was given", b)
	}
}

// 2.6: Load of what was stored is its lowest bytes, across a page's end too; no other byte is changed.
func TestStoreAndLoad(t *testing.T) {
	const v = 0xf1e2d3c4b5a69788
	for _, n := range []int{1, 2, 4, 8} {
		for at := uint64(2*size - 9); at < 2*size+9; at++ {
			m := made(t, 4096, rw, 8192, rw)
			b, _ := m.Peek(4096, 2*size)
			want(t, "Store", m.Store(at, n, v), api.OK)
			mask := uint64(math.MaxUint64) >> (64 - 8*n)
			if got, e := m.Load(at, n); got != v&mask || e != api.OK {
				t.Errorf("Load(%d, %d): %x, %v", at, n, got, e)
			}
			for i := range n {
				b[at-4096+uint64(i)] = byte(uint64(v) >> (8 * i))
			}
			if after, _ := m.Peek(4096, 2*size); !bytes.Equal(after, b) {
				t.Errorf("Store(%d, %d) changed other bytes", at, n)
			}
		}
	}
}

// 2.7: stores of bytes that do not meet may change places; eight bytes are two times four.
func TestHalvesAndOrder(t *testing.T) {
	r := rand.New(rand.NewSource(4))
	counts := []int{1, 2, 4, 8}
	for range 2000 {
		m := made(t, 4096, rw, 8192, rw)
		n, k := counts[r.Intn(4)], counts[r.Intn(4)]
		at := uint64(8192 - 20 + r.Intn(30))
		next := at + uint64(n) + uint64(r.Intn(3))
		v, w := r.Uint64(), r.Uint64()
		c := m.Clone()
		m.Store(at, n, v)
		m.Store(next, k, w)
		c.Store(next, k, w)
		c.Store(at, n, v)
		if !Same(m, c) {
			t.Fatal("order", at, n, next, k)
		}
		all, _ := m.Load(at, 8)
		low, _ := m.Load(at, 4)
		high, _ := m.Load(at+4, 4)
		if all != low+high<<32 {
			t.Fatal("halves", at)
		}
	}
}

// 2.8: From of Pages is the same memory.
func TestFromOfPages(t *testing.T) {
	m := made(t, 0, 1, 4096, 2, 12288, 4, 1<<30, 5, 1<<48-4096, 6)
	n, e := From(m.Pages())
	if e != api.OK || !Same(m, n) {
		t.Error("From of Pages", e)
	}
	n, e = From(New().Pages())
	if e != api.OK || !Same(New(), n) {
		t.Error("From of no pages", e)
	}
}

// model is a memory as the chapter has it, byte by byte.
type model struct {
	perms map[uint64]int
	bytes map[uint64]byte
}

func (o *model) may(at uint64, n, perm int) api.Errno {
	if at >= 1<<48 || uint64(n) > 1<<48-at {
		return api.ErrArg
	}
	e := api.OK
	for i := range uint64(n) {
		p, there := o.perms[(at+i)/size]
		if !there {
			return api.ErrPage
		}
		if p&perm != perm {
			e = api.ErrPerm
		}
	}
	return e
}

func (o *model) number(at uint64, n int) uint64 {
	v := uint64(0)
	for i := range uint64(n) {
		v += uint64(o.bytes[at+i]) << (8 * i)
	}
	return v
}

func (o *model) put(at uint64, b ...byte) {
	for i, x := range b {
		o.bytes[at+uint64(i)] = x
	}
}

func (o *model) mapped(base uint64, perm int, length uint64) api.Errno {
	if base%size != 0 || length == 0 || base > 1<<48 || length > 1<<48-base {
		return api.ErrArg
	}
	if perm < 1 || perm > 6 || perm == 3 {
		return api.ErrPerm
	}
	count := (length + size - 1) / size
	if uint64(len(o.perms))+count > api.MaxPages {
		return api.ErrPage
	}
	for i := range count {
		if _, there := o.perms[base/size+i]; there {
			return api.ErrPage
		}
	}
	for i := range count {
		o.perms[base/size+i] = perm
	}
	return api.OK
}

// step does one call at random to both, and tells whether they agree.
func (o *model) step(r *rand.Rand, m *Mem) bool {
	bases := []uint64{0, 4096, 8192, 12288, 16384, 1<<48 - 4096, 1 << 48}
	at := bases[r.Intn(7)] + uint64(r.Intn(24)) - 12
	n := []int{1, 2, 4, 8, r.Intn(12) - 1}[r.Intn(5)]
	numeric := n == 1 || n == 2 || n == 4 || n == 8
	v := r.Uint64()
	switch r.Intn(6) {
	case 0:
		base, perm, length := bases[r.Intn(7)], r.Intn(9)-1, uint64(r.Intn(3))*size/2
		return m.Map(base, perm, length) == o.mapped(base, perm, length)
	case 1:
		e := api.ErrArg
		if numeric {
			e = o.may(at, n, api.PermRead)
		}
		got, f := m.Load(at, n)
		return e == f && (e != api.OK && got == 0 || e == api.OK && got == o.number(at, n))
	case 2:
		e := api.ErrArg
		if numeric {
			e = o.may(at, n, api.PermWrite)
		}
		if e == api.OK {
			for i := range n {
				o.put(at+uint64(i), byte(v>>(8*i)))
			}
		}
		return m.Store(at, n, v) == e
	case 3:
		e := api.ErrArg
		if at%4 == 0 {
			e = o.may(at, 4, api.PermExec)
		}
		got, f := m.Fetch(at)
		return e == f && (e != api.OK && got == 0 || e == api.OK && uint64(got) == o.number(at, 4))
	case 4:
		e := api.ErrArg
		if n >= 0 {
			e = o.may(at, n, 0)
		}
		got, f := m.Peek(at, n)
		for i, b := range got {
			if b != o.bytes[at+uint64(i)] {
				return false
			}
		}
		return e == f && (e != api.OK && len(got) == 0 || e == api.OK && len(got) == n)
	}
	b := make([]byte, max(n, 0))
	r.Read(b)
	e := o.may(at, len(b), 0)
	if e == api.OK {
		o.put(at, b...)
	}
	return m.Poke(at, b) == e
}

// 2.1 to 2.8: long runs of calls agree with the chapter's words, byte by byte.
func TestAgainstModel(t *testing.T) {
	r := rand.New(rand.NewSource(5))
	for run := range 200 {
		m := New()
		o := &model{perms: map[uint64]int{}, bytes: map[uint64]byte{}}
		for k := range 400 {
			if !o.step(r, m) {
				t.Fatalf("run %d, call %d", run, k)
			}
		}
		l := m.Pages()
		if len(l) != len(o.perms) {
			t.Fatalf("run %d: %d pages", run, len(l))
		}
		for _, p := range l {
			if p.Perm != o.perms[p.Base/size] {
				t.Fatalf("run %d: page %d", run, p.Base)
			}
			for i, b := range p.Bytes {
				if b != o.bytes[p.Base+uint64(i)] {
					t.Fatalf("run %d: byte %d", run, p.Base+uint64(i))
				}
			}
		}
	}
}
