// Package mem is layer 2: the machine's memory, bytes in pages (see shared/doc/02-mem.md).
package mem

import (
	"bytes"
	"iter"
	"maps"
	"slices"

	"patina/api"
)

// end is the place behind the last byte that a memory can have.
const end = 1 << 48

// Mem is a memory.
type Mem struct {
	pages map[uint64]api.Page // by Base
}

// New is a memory without pages.
func New() *Mem { return &Mem{pages: map[uint64]api.Page{}} }

// From is a memory of pages.
func From(l []api.Page) (*Mem, api.Errno) {
	if len(l) > api.MaxPages {
		return nil, api.ErrPage
	}
	m := New()
	for i, p := range l {
		if p.Base%api.PageSize != 0 || p.Base >= end || i > 0 && p.Base <= l[i-1].Base || len(p.Bytes) != api.PageSize {
			return nil, api.ErrPage
		}
		if !permRight(p.Perm) {
			return nil, api.ErrPerm
		}
		m.pages[p.Base] = copied(p)
	}
	return m, api.OK
}

// Map makes pages.
func (m *Mem) Map(base uint64, perm int, size uint64) api.Errno {
	if base%api.PageSize != 0 || size == 0 || beyond(base, size) {
		return api.ErrArg
	}
	if !permRight(perm) {
		return api.ErrPerm
	}
	if !m.free(base, size) {
		return api.ErrPage
	}
	if m == nil {
		return api.OK
	}
	if m.pages == nil { // of a Mem that New did not make
		m.pages = map[uint64]api.Page{}
	}
	for at := base; at < base+size; at += api.PageSize {
		m.pages[at] = api.Page{Base: at, Perm: perm, Bytes: make([]byte, api.PageSize)}
	}
	return api.OK
}

// free tells whether pages can be made for size bytes from base on.
func (m *Mem) free(base, size uint64) bool {
	// Counted ahead of looking at them one by one: there may be 2^36 of them.
	if size > uint64(api.MaxPages-m.count())*api.PageSize {
		return false
	}
	for at := base; at < base+size; at += api.PageSize {
		if _, there := m.page(at); there {
			return false
		}
	}
	return true
}

// Load is a number of some bytes.
func (m *Mem) Load(at uint64, n int) (uint64, api.Errno) {
	if e := m.number(at, n, api.PermRead); e != api.OK {
		return 0, e
	}
	return m.value(at, n), api.OK
}

// Store writes a number of some bytes.
func (m *Mem) Store(at uint64, n int, v uint64) api.Errno {
	if e := m.number(at, n, api.PermWrite); e != api.OK {
		return e
	}
	for run := range m.runs(at, n) {
		for i := range run {
			run[i] = byte(v)
			v >>= 8
		}
	}
	return api.OK
}

// Fetch is the word of an instruction.
func (m *Mem) Fetch(at uint64) (uint32, api.Errno) {
	if at%4 != 0 {
		return 0, api.ErrArg
	}
	if e := m.number(at, 4, api.PermExec); e != api.OK {
		return 0, e
	}
	return uint32(m.value(at, 4)), api.OK
}

// number tells what forbids a number of n bytes to be used at a place, by pages with perm.
func (m *Mem) number(at uint64, n, perm int) api.Errno {
	switch n {
	case 1, 2, 4, 8:
		return m.usable(at, n, perm)
	}
	return api.ErrArg
}

// value is the number of n bytes that are there.
func (m *Mem) value(at uint64, n int) uint64 {
	var v uint64
	shift := 0
	for run := range m.runs(at, n) {
		for _, b := range run {
			v |= uint64(b) << shift
			shift += 8
		}
	}
	return v
}

// Peek are bytes, whatever may be done to them.
func (m *Mem) Peek(at uint64, n int) ([]byte, api.Errno) {
	if n < 0 || n > api.MaxSource {
		return nil, api.ErrArg
	}
	if e := m.usable(at, n, 0); e != api.OK {
		return nil, e
	}
	var l []byte
	for run := range m.runs(at, n) {
		l = append(l, run...)
	}
	return l, api.OK
}

// Poke writes bytes, whatever may be done to them.
func (m *Mem) Poke(at uint64, b []byte) api.Errno {
	if len(b) > api.MaxSource {
		return api.ErrArg
	}
	if e := m.usable(at, len(b), 0); e != api.OK {
		return e
	}
	for run := range m.runs(at, len(b)) {
		b = b[copy(run, b):]
	}
	return api.OK
}

// Pages are all pages.
func (m *Mem) Pages() []api.Page {
	var l []api.Page
	for p := range m.inOrder() {
		l = append(l, copied(p))
	}
	return l
}

// Clone is a memory with the same pages.
func (m *Mem) Clone() *Mem {
	c := New()
	for p := range m.inOrder() {
		c.pages[p.Base] = copied(p)
	}
	return c
}

// Same tells whether two memories have the same pages.
func Same(a, b *Mem) bool {
	if a.count() != b.count() {
		return false
	}
	for p := range a.inOrder() {
		q, there := b.page(p.Base)
		if !there || p.Perm != q.Perm || !bytes.Equal(p.Bytes, q.Bytes) {
			return false
		}
	}
	return true
}

// page is the page with a Base. The memory may be nil.
func (m *Mem) page(base uint64) (api.Page, bool) {
	if m == nil {
		return api.Page{}, false
	}
	p, there := m.pages[base]
	return p, there
}

// count is how many pages there are. The memory may be nil.
func (m *Mem) count() int {
	if m == nil {
		return 0
	}
	return len(m.pages)
}

// inOrder goes over the pages that are kept, by Base, rising. The memory may be nil.
func (m *Mem) inOrder() iter.Seq[api.Page] {
	return func(yield func(api.Page) bool) {
		if m == nil {
			return
		}
		for _, base := range slices.Sorted(maps.Keys(m.pages)) {
			if !yield(m.pages[base]) {
				return
			}
		}
	}
}

// runs goes over n bytes that are there, from a place on, as the pieces of the pages that keep them.
func (m *Mem) runs(at uint64, n int) iter.Seq[[]byte] {
	return func(yield func([]byte) bool) {
		place, left := at, n
		for left > 0 {
			p, _ := m.page(baseOf(place))
			run := p.Bytes[place-p.Base:]
			run = run[:min(left, len(run))]
			if !yield(run) {
				return
			}
			place += uint64(len(run))
			left -= len(run)
		}
	}
}

// usable tells what forbids n bytes to be used, by pages with perm (0: by any). A page that is not there is told ahead of one that may not be used.
func (m *Mem) usable(at uint64, n, perm int) api.Errno {
	if beyond(at, uint64(n)) {
		return api.ErrArg
	}
	e := api.OK
	for place := at; place < at+uint64(n); place = baseOf(place) + api.PageSize {
		p, there := m.page(baseOf(place))
		if !there {
			return api.ErrPage
		}
		if p.Perm&perm != perm {
			e = api.ErrPerm
		}
	}
	return e
}

// beyond tells whether a place, or one of the n bytes from it on, is at 2^48 or above.
func beyond(at, n uint64) bool { return at >= end || n > end-at }

// baseOf is the Base of the page in which a place stands.
func baseOf(at uint64) uint64 { return at - at%api.PageSize }

func permRight(perm int) bool {
	const both = api.PermWrite | api.PermExec
	return perm > 0 && perm <= api.PermRead|both && perm&both != both
}

// copied is a page with bytes of its own.
func copied(p api.Page) api.Page {
	p.Bytes = bytes.Clone(p.Bytes)
	return p
}
