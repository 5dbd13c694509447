package mem

import (
	"bytes"
	"math"
	"testing"

	"patina/api"
)

const (
	size = api.PageSize
	rw   = api.PermRead + api.PermWrite
	rx   = api.PermRead + api.PermExec
)

// made is a memory of pages; what they are is given as Base and Perm by turns, their bytes are unlike.
func made(t *testing.T, what ...int) *Mem {
	t.Helper()
	m, e := From(pagesOf(what...))
	if e != api.OK {
		t.Fatal("From", e)
	}
	return m
}

func pagesOf(what ...int) []api.Page {
	var l []api.Page
	for k := 0; k < len(what); k += 2 {
		b := make([]byte, size)
		for i := range b {
			b[i] = byte(i*7 + i/256 + what[k]/size + 1)
		}
		l = append(l, api.Page{Base: uint64(what[k]), Perm: what[k+1], Bytes: b})
	}
	return l
}

func want(t *testing.T, what string, got, want api.Errno) {
	t.Helper()
	if got != want {
		t.Errorf("%s: %v, not %v", what, got, want)
	}
}

func samePages(a, b []api.Page) bool {
	if len(a) != len(b) {
		return false
	}
	for i := range a {
		if a[i].Base != b[i].Base || a[i].Perm != b[i].Perm || !bytes.Equal(a[i].Bytes, b[i].Bytes) {
			return false
		}
	}
	return true
}

// refused holds a call to an error, and to have changed nothing (R4, 2.6).
func refused(t *testing.T, m *Mem, what string, want api.Errno, call func() api.Errno) {
	t.Helper()
	before := m.Pages()
	if e := call(); e != want {
		t.Errorf("%s: %v, not %v", what, e, want)
	}
	if !samePages(before, m.Pages()) {
		t.Errorf("%s: refused, but something changed", what)
	}
}

// The chapter's example.
func TestExample(t *testing.T) {
	m := New()
	want(t, "Map", m.Map(4096, rw, 5000), api.OK)
	l := m.Pages()
	if len(l) != 2 || l[0].Base != 4096 || l[1].Base != 8192 || l[0].Perm != rw || l[1].Perm != rw {
		t.Fatal("Pages", l)
	}
	want(t, "Store", m.Store(8190, 4, 67305985), api.OK)
	if b, e := m.Peek(8190, 4); !bytes.Equal(b, []byte{1, 2, 3, 4}) || e != api.OK {
		t.Error("Peek", b, e)
	}
	if v, e := m.Load(8191, 2); v != 770 || e != api.OK {
		t.Error("Load", v, e)
	}
	refused(t, m, "Load(12288, 1)", api.ErrPage, func() api.Errno { _, e := m.Load(12288, 1); return e })
	refused(t, m, "Fetch(4096)", api.ErrPerm, func() api.Errno { _, e := m.Fetch(4096); return e })
	refused(t, m, "Fetch(4098)", api.ErrArg, func() api.Errno { _, e := m.Fetch(4098); return e })
	refused(t, m, "Load(4096, 3)", api.ErrArg, func() api.Errno { _, e := m.Load(4096, 3); return e })
	refused(t, m, "Map(8192, 4, 1)", api.ErrPage, func() api.Errno { return m.Map(8192, 4, 1) })
	refused(t, m, "Map(0, 3, 1)", api.ErrPerm, func() api.Errno { return m.Map(0, 3, 1) })
}

// 2.1: New has no pages.
func TestNew(t *testing.T) {
	m := New()
	if m == nil || len(m.Pages()) != 0 {
		t.Error("New", m)
	}
}

// 2.1: what From refuses, and in which order.
func TestFrom(t *testing.T) {
	good := func() []api.Page { return pagesOf(0, 1, 4096, 2, 12288, 4, 1<<48-4096, 6) }
	if m, e := From(good()); e != api.OK || !samePages(m.Pages(), good()) {
		t.Error("From", e)
	}
	for _, l := range [][]api.Page{nil, {}} {
		if m, e := From(l); e != api.OK || m == nil || len(m.Pages()) != 0 {
			t.Error("From of nothing", m, e)
		}
	}
	change := func(k int, f func(p *api.Page)) []api.Page {
		l := good()
		f(&l[k])
		return l
	}
	for _, c := range []struct {
		what string
		l    []api.Page
		e    api.Errno
	}{
		{"a Base that is no multiple", change(1, func(p *api.Page) { p.Base++ }), api.ErrPage},
		{"a first Base that is no multiple", change(0, func(p *api.Page) { p.Base = 2048 }), api.ErrPage},
		{"a Base at 2^48", change(3, func(p *api.Page) { p.Base = 1 << 48 }), api.ErrPage},
		{"the greatest Base", change(3, func(p *api.Page) { p.Base = math.MaxUint64 - size + 1 }), api.ErrPage},
		{"a Base twice", change(2, func(p *api.Page) { p.Base = 4096 }), api.ErrPage},
		{"a Base that falls", change(2, func(p *api.Page) { p.Base = 0 }), api.ErrPage},
		{"a byte less", change(2, func(p *api.Page) { p.Bytes = p.Bytes[:size-1] }), api.ErrPage},
		{"a byte more", change(2, func(p *api.Page) { p.Bytes = append(p.Bytes, 0) }), api.ErrPage},
		{"no bytes", change(0, func(p *api.Page) { p.Bytes = nil }), api.ErrPage},
		{"Perm 0", change(1, func(p *api.Page) { p.Perm = 0 }), api.ErrPerm},
		{"Perm 3", change(1, func(p *api.Page) { p.Perm = 3 }), api.ErrPerm},
		{"of one page ErrPage first", change(1, func(p *api.Page) { p.Perm, p.Bytes = 0, nil }), api.ErrPage},
		{"the page ahead first", append(change(0, func(p *api.Page) { p.Perm = 7 })[:1], api.Page{Base: 1}), api.ErrPerm},
		{"the page ahead first", append(change(0, func(p *api.Page) { p.Base = 1 })[:1], api.Page{Base: 4096, Perm: 7, Bytes: make([]byte, size)}), api.ErrPage},
	} {
		if m, e := From(c.l); e != c.e || m != nil {
			t.Errorf("%s: %v, %v", c.what, m, e)
		}
	}
}

// 2.1: MaxPages are taken, one more is not, whatever else is wrong.
func TestFromManyPages(t *testing.T) {
	b := make([]byte, size)
	var l []api.Page
	for i := range api.MaxPages + 1 {
		l = append(l, api.Page{Base: uint64(i) * size, Perm: rw, Bytes: b})
	}
	if m, e := From(l[:api.MaxPages]); e != api.OK || len(m.Pages()) != api.MaxPages {
		t.Error("MaxPages", e)
	}
	l[0].Perm = 0
	if m, e := From(l); e != api.ErrPage || m != nil {
		t.Error("MaxPages and one", e)
	}
}

// 2.1, 2.2: which Perms there are.
func TestPerms(t *testing.T) {
	right := map[int]int{1: 1, 2: 1, 4: 1, 5: 1, 6: 1}
	for _, perm := range []int{0, 1, 2, 3, 4, 5, 6, 7, 8, 9, 10, 12, -1, -4, 1<<32 + 4, math.MinInt, math.MaxInt} {
		e := api.ErrPerm
		if right[perm] == 1 {
			e = api.OK
		}
		want(t, "Map", New().Map(0, perm, 1), e)
		_, got := From([]api.Page{{Perm: perm, Bytes: make([]byte, size)}})
		want(t, "From", got, e)
	}
}

// 2.2: what Map makes is there, and 0 (2.8).
func TestMap(t *testing.T) {
	for _, c := range []struct {
		base, size uint64
		pages      int
	}{
		{0, 1, 1}, {0, size, 1}, {size, size + 1, 2}, {4 * size, 3 * size, 3}, {1<<48 - size, size, 1}, {1<<48 - 2*size, size + 1, 2},
	} {
		m := New()
		want(t, "Map", m.Map(c.base, rx, c.size), api.OK)
		l := m.Pages()
		if len(l) != c.pages {
			t.Fatalf("%v: %d pages", c, len(l))
		}
		for i, p := range l {
			if p.Base != c.base+uint64(i)*size || p.Perm != rx || !bytes.Equal(p.Bytes, make([]byte, size)) {
				t.Errorf("%v: page %d is %d, %d", c, i, p.Base, p.Perm)
			}
		}
	}
}

// 2.2: what Map refuses, and in which order.
func TestMapRefuses(t *testing.T) {
	m := made(t, 4096, rw, 12288, rx)
	for _, c := range []struct {
		base uint64
		perm int
		size uint64
		e    api.Errno
	}{
		{1, 4, 1, api.ErrArg},
		{size / 2, 4, 1, api.ErrArg},
		{0, 4, 0, api.ErrArg},
		{0, 0, 0, api.ErrArg},
		{1 << 48, 4, 0, api.ErrArg},
		{1 << 48, 4, 1, api.ErrArg},
		{1<<48 - size, 4, size + 1, api.ErrArg},
		{1<<48 - size, 3, size + 1, api.ErrArg},
		{0, 4, 1<<48 + 1, api.ErrArg},
		{0, 4, math.MaxUint64, api.ErrArg},
		{size, 4, math.MaxUint64, api.ErrArg},
		{math.MaxUint64 - size + 1, 4, size, api.ErrArg},
		{math.MaxUint64 - size + 1, 4, 2 * size, api.ErrArg},
		{math.MaxUint64, 4, 1, api.ErrArg},
		{4096, 3, 1, api.ErrPerm},
		{0, 8, 1 << 48, api.ErrPerm},
		{4096, 4, 1, api.ErrPage},
		{0, 4, size + 1, api.ErrPage},
		{8192, 4, size + 1, api.ErrPage},
		{12288, rx, size, api.ErrPage},
		{0, 4, 1 << 48, api.ErrPage},
		{65536, 4, (api.MaxPages - 1) * size, api.ErrPage},
		{65536, 4, (api.MaxPages-2)*size + 1, api.ErrPage},
	} {
		refused(t, m, "Map", c.e, func() api.Errno { return m.Map(c.base, c.perm, c.size) })
		if t.Failed() {
			t.Fatal(c)
		}
	}
	want(t, "up to MaxPages", m.Map(65536, 4, (api.MaxPages-2)*size), api.OK)
	if len(m.Pages()) != api.MaxPages {
		t.Error("pages", len(m.Pages()))
	}
	want(t, "beyond MaxPages", m.Map(0, 4, 1), api.ErrPage)
	want(t, "MaxPages at once", New().Map(0, 4, api.MaxPages*size), api.OK)
}

// 2.3: which counts there are, and the end of what can be there.
func TestLoadAndStoreRefuse(t *testing.T) {
	m := made(t, 4096, rw, 1<<48-4096, rw)
	for _, c := range []struct {
		at uint64
		n  int
		e  api.Errno
	}{
		{4096, 1, api.OK}, {4096, 2, api.OK}, {4096, 4, api.OK}, {4096, 8, api.OK}, {4097, 8, api.OK}, {8184, 8, api.OK}, {8191, 1, api.OK},
		{4096, 0, api.ErrArg}, {4096, 3, api.ErrArg}, {4096, 5, api.ErrArg}, {4096, 6, api.ErrArg}, {4096, 7, api.ErrArg}, {4096, 9, api.ErrArg}, {4096, 16, api.ErrArg},
		{4096, -1, api.ErrArg}, {4096, math.MinInt, api.ErrArg}, {4096, math.MaxInt, api.ErrArg}, {4096, 1<<32 + 8, api.ErrArg}, {0, 3, api.ErrArg},
		{1<<48 - 1, 1, api.OK}, {1<<48 - 8, 8, api.OK},
		{1<<48 - 1, 2, api.ErrArg}, {1<<48 - 7, 8, api.ErrArg}, {1 << 48, 1, api.ErrArg}, {1 << 60, 1, api.ErrArg},
		{math.MaxUint64, 1, api.ErrArg}, {math.MaxUint64, 8, api.ErrArg}, {math.MaxUint64 - 7, 8, api.ErrArg},
		{4095, 1, api.ErrPage}, {4095, 2, api.ErrPage}, {8192, 1, api.ErrPage}, {8191, 2, api.ErrPage}, {8185, 8, api.ErrPage}, {1<<48 - 4097, 2, api.ErrPage},
	} {
		v, e := m.Load(c.at, c.n)
		want(t, "Load", e, c.e)
		if e != api.OK && v != 0 {
			t.Error("beside an error", v)
		}
		if c.e == api.OK {
			want(t, "Store", m.Clone().Store(c.at, c.n, 5), api.OK)
		} else {
			refused(t, m, "Store", c.e, func() api.Errno { return m.Store(c.at, c.n, 5) })
		}
		if t.Failed() {
			t.Fatal(c)
		}
	}
}

// 2.3: each Perm by itself, and of two pages ErrPage ahead of ErrPerm, whichever byte it is of.
func TestPermsOfUse(t *testing.T) {
	for _, perm := range []int{1, 2, 4, 5, 6} {
		m := made(t, 4096, perm)
		may := func(p int) api.Errno {
			if perm&p != 0 {
				return api.OK
			}
			return api.ErrPerm
		}
		_, e := m.Load(4096, 8)
		want(t, "Load", e, may(api.PermRead))
		_, e = m.Fetch(4096)
		want(t, "Fetch", e, may(api.PermExec))
		_, e = m.Peek(4096, 8)
		want(t, "Peek", e, api.OK)
		want(t, "Store", m.Clone().Store(4096, 8, 1), may(api.PermWrite))
		want(t, "Poke", m.Poke(4096, []byte{1}), api.OK)
	}
	m := made(t, 4096, rx, 8192, rw, 12288, api.PermExec, 20480, api.PermExec)
	for _, c := range []struct {
		at    uint64
		load  api.Errno
		store api.Errno
	}{
		{8188, api.OK, api.ErrPerm},
		{12284, api.ErrPerm, api.ErrPerm},
		{16380, api.ErrPage, api.ErrPage},
		{20476, api.ErrPage, api.ErrPage},
		{12288, api.ErrPerm, api.ErrPerm},
	} {
		_, e := m.Load(c.at, 8)
		want(t, "Load", e, c.load)
		refused(t, m, "Store", c.store, func() api.Errno { return m.Store(c.at, 8, 0) })
	}
}

// 2.3: Fetch.
func TestFetch(t *testing.T) {
	m := made(t, 4096, api.PermExec, 8192, rw, 1<<48-4096, rx)
	for _, c := range []struct {
		at uint64
		e  api.Errno
	}{
		{4096, api.OK}, {8188, api.OK}, {1<<48 - 4, api.OK},
		{4097, api.ErrArg}, {4098, api.ErrArg}, {4099, api.ErrArg}, {1, api.ErrArg}, {8194, api.ErrArg},
		{1 << 48, api.ErrArg}, {1<<48 + 4, api.ErrArg}, {math.MaxUint64 - 3, api.ErrArg}, {math.MaxUint64, api.ErrArg},
		{4092, api.ErrPage}, {12288, api.ErrPage}, {0, api.ErrPage},
		{8192, api.ErrPerm},
	} {
		w, e := m.Fetch(c.at)
		want(t, "Fetch", e, c.e)
		b, _ := m.Peek(c.at, 4)
		if e == api.OK && w != uint32(b[0])|uint32(b[1])<<8|uint32(b[2])<<16|uint32(b[3])<<24 {
			t.Errorf("Fetch(%d): %x of %v", c.at, w, b)
		}
		if e != api.OK && w != 0 {
			t.Error("beside an error", w)
		}
	}
}

// 2.4: Peek and Poke, at all edges.
func TestPeekAndPoke(t *testing.T) {
	m := New()
	want(t, "Map", m.Map(4096, api.PermExec, 17*size), api.OK)
	want(t, "Map", m.Map(1<<48-4096, api.PermRead, 1), api.OK)
	for _, c := range []struct {
		at uint64
		n  int
		e  api.Errno
	}{
		{4096, 0, api.OK}, {4096, 1, api.OK}, {4096, api.MaxSource, api.OK}, {4097, api.MaxSource, api.OK}, {8192, api.MaxSource, api.OK},
		{0, 0, api.OK}, {5, 0, api.OK}, {1<<48 - 1, 0, api.OK}, {1<<48 - 1, 1, api.OK}, {1<<48 - 4096, 4096, api.OK},
		{4096, api.MaxSource + 1, api.ErrArg}, {0, api.MaxSource + 1, api.ErrArg},
		{1 << 48, 0, api.ErrArg}, {1 << 48, 1, api.ErrArg}, {1<<48 - 1, 2, api.ErrArg}, {1<<48 - api.MaxSource, api.MaxSource + 1, api.ErrArg},
		{math.MaxUint64, 0, api.ErrArg}, {math.MaxUint64, 1, api.ErrArg}, {math.MaxUint64 - 1, 2, api.ErrArg},
		{4095, 1, api.ErrPage}, {4095, 2, api.ErrPage}, {8193, api.MaxSource, api.ErrPage}, {1<<48 - 4097, 4097, api.ErrPage}, {0, api.MaxSource, api.ErrPage},
	} {
		b, e := m.Peek(c.at, c.n)
		want(t, "Peek", e, c.e)
		if e == api.OK && len(b) != c.n || e != api.OK && len(b) != 0 {
			t.Error("Peek", len(b))
		}
		if c.e == api.OK {
			want(t, "Poke", m.Clone().Poke(c.at, make([]byte, c.n)), api.OK)
		} else {
			refused(t, m, "Poke", c.e, func() api.Errno { return m.Poke(c.at, bytes.Repeat([]byte{7}, c.n)) })
		}
		if t.Failed() {
			t.Fatal(c)
		}
	}
	for _, n := range []int{-1, math.MinInt, math.MaxInt} {
		_, e := m.Peek(4096, n)
		want(t, "Peek", e, api.ErrArg)
	}
	want(t, "Poke of nil", m.Poke(0, nil), api.OK)
}

// 2.4: what was poked across pages is peeked, and no other byte is changed (2.6).
func TestPokeAcrossPages(t *testing.T) {
	m := made(t, 4096, rx, 8192, api.PermRead, 12288, rw)
	before, _ := m.Peek(4096, 3*size)
	b := bytes.Repeat([]byte{200, 201, 202}, 2000)
	want(t, "Poke", m.Poke(5000, b), api.OK)
	after, _ := m.Peek(4096, 3*size)
	copy(before[904:], b)
	if !bytes.Equal(before, after) {
		t.Error("Poke")
	}
}
