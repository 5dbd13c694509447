package elf

import (
	"bytes"
	"math"
	"reflect"
	"testing"

	"patina/api"
	"patina/mem"
)

const (
	size = api.PageSize
	rx   = api.PermRead + api.PermExec
	rw   = api.PermRead + api.PermWrite
	base = 65536
)

// some are n bytes, of which none is 0.
func some(n int) []byte {
	b := make([]byte, n)
	for k := range b {
		b[k] = byte(1 + k%251)
	}
	return b
}

func segment(addr uint64, perm, bytes int, size uint64) api.Segment {
	return api.Segment{Addr: addr, Perm: perm, Bytes: some(bytes), Size: size}
}

func image(entry uint64, l ...api.Segment) api.Image {
	return api.Image{Entry: entry, Segments: l}
}

// example is the chapter's first one.
func example() api.Image {
	return image(base, api.Segment{Addr: base, Perm: rx, Bytes: []byte{115, 0, 0, 0}, Size: 4})
}

// program has code, data, and a segment without bytes.
func program() api.Image {
	return image(base+8, segment(base, rx, 5000, 5000), segment(base+2*size, rw, 10, 9000), segment(1<<40, rw, 0, 1))
}

// right are images that are right, the ends that the chapter names among them.
func right() map[string]api.Image {
	const top = 1 << 48
	eight := image(0)
	for k := range 8 {
		eight.Segments = append(eight.Segments, segment(uint64(k)*size, []int{rx, rw, 1, 2, 4, 5, 6, 4}[k], 4+k, size))
	}
	return map[string]api.Image{
		"example":                         example(),
		"program":                         program(),
		"eight segments":                  eight,
		"at 0":                            image(0, segment(0, 1, 4, 4)),
		"a page":                          image(base, segment(base, rx, size, size)),
		"a page and a byte":               image(base, segment(base, rx, size+1, size+1)),
		"bytes that end with noughts":     image(base, api.Segment{Addr: base, Perm: 1, Bytes: make([]byte, 9), Size: 10}),
		"segments that touch":             image(base, segment(base, rx, 4, size), segment(base+size, rw, 4, 4)),
		"the first one's last byte":       image(base, segment(base, rx, 4, 2*size), segment(base+2*size, rw, 0, 1)),
		"the last bytes ahead of 2^48":    image(top-4, segment(top-size, rx, size, size)),
		"all pages":                       image(base, segment(base, rx, 4, api.MaxPages*size)),
		"all pages, in two":               image(base, segment(base, rx, 4, size+1), segment(base+2*size, rw, 1, (api.MaxPages-2)*size)),
		"Entry at the last four":          image(base+8, segment(base, rx, 12, 12)),
		"Entry in the second segment":     image(base+size, segment(base, rw, 4, 4), segment(base+size, 1, 4, 4)),
		"Entry in two pages":              image(base+size, segment(base, rx, size+4, 2*size)),
		"bytes of the second one alone":   image(base+size, segment(base, 4, 0, 1), segment(base+size, 5, 7, 8)),
		"the first one of 4097, far away": image(base, segment(base, rx, 4097, 4097), segment(base+2*size, 2, 1, 1)),
	}
}

// wrong are images that are not right.
func wrong() map[string]api.Image {
	nine := image(0)
	for k := range 9 {
		nine.Segments = append(nine.Segments, segment(uint64(k)*size, rx, 4, size))
	}
	l := map[string]api.Image{
		"none":                         {},
		"no segments":                  image(base),
		"empty segments":               {Entry: base, Segments: []api.Segment{}},
		"nine segments":                nine,
		"Addr no multiple":             image(base+4, segment(base+4, rx, 4, 4)),
		"the second Addr no multiple":  image(base, segment(base, rx, 4, 4), segment(base+size+8, rw, 4, 4)),
		"no Size":                      image(base, segment(base, rx, 4, 4), segment(base+size, rw, 0, 0)),
		"Size 3 of four bytes":         image(base, segment(base, rx, 4, 3)),
		"Size one less than bytes":     image(base, segment(base, rx, size+1, size)),
		"Size too great":               image(base, segment(base, rx, 4, api.MaxPages*size+1)),
		"Size 2^63":                    image(base, segment(base, rx, 4, 1<<63)),
		"Size 2^64 - 1":                image(base, segment(base, rx, 4, math.MaxUint64)),
		"Size 2^64 - base":             image(base, segment(base, rx, 4, math.MaxUint64-base+1)),
		"a byte above 2^48":            image(1<<48-size, segment(1<<48-size, rx, 4, size+1)),
		"at 2^48":                      image(1<<48, segment(1<<48, rx, 4, 4)),
		"Addr 2^64 - 4096":             image(math.MaxUint64-4095, segment(math.MaxUint64-4095, rx, 4, size)),
		"segments that meet":           image(base, segment(base, rx, 4, size+1), segment(base+size, rw, 4, 4)),
		"two at one place":             image(base, segment(base, rx, 4, 4), segment(base, rw, 4, 4)),
		"segments that fall":           image(base, segment(base, rx, 4, 4), segment(base-size, rw, 4, 4)),
		"the third meets the second":   image(base, segment(base, rx, 4, 4), segment(base+size, rw, 4, 2*size+1), segment(base+3*size, rw, 4, 4)),
		"the third meets the first":    image(base, segment(base, rx, 4, 3*size), segment(base+3*size, rw, 4, 4), segment(base+size, rw, 4, 4)),
		"too many pages":               image(base, segment(base, rx, 4, size+1), segment(base+2*size, rw, 1, (api.MaxPages-2)*size+1)),
		"too many pages in three":      image(base, segment(base, rx, 4, 1), segment(base+size, rw, 1, (api.MaxPages-1)*size), segment(1<<40, rw, 0, 1)),
		"Entry no multiple of 4":       image(base+2, segment(base, rx, 8, 8)),
		"Entry odd":                    image(base+1, segment(base, rx, 8, 8)),
		"Entry behind the bytes":       image(base+4, segment(base, rx, 4, size)),
		"Entry of three bytes":         image(base+4, segment(base, rx, 7, size)),
		"Entry ahead":                  image(base-4, segment(base, rx, 8, 8)),
		"Entry of no bytes":            image(base, segment(base, rx, 0, 8)),
		"Entry of three bytes in all":  image(base, segment(base, rx, 3, 8)),
		"Entry that may not be run":    image(base+size, segment(base, rx, 4, 4), segment(base+size, rw, 4, 4)),
		"Entry that may be read":       image(base, segment(base, 4, 4, 4)),
		"Entry in no segment":          image(base+8*size, segment(base, rx, 4, 4)),
		"Entry 2^64 - 4":               image(math.MaxUint64-3, segment(base, rx, 4, 4)),
		"Entry 2^64 - 4, of one at 0":  image(math.MaxUint64-3, segment(0, rx, 8, 8)),
		"Entry across two that touch":  image(base+size-2, segment(base, rx, size, size), segment(base+size, rx, 4, 4)),
		"Entry in the end of the page": image(base+size, segment(base, rx, size, 2*size)),
	}
	for perm, name := range map[int]string{0: "Perm 0", 3: "Perm 3", 7: "Perm 7", 8: "Perm 8", 13: "Perm 13", -1: "Perm -1", -3: "Perm -3", 1<<32 + 5: "Perm 2^32 + 5", math.MinInt: "Perm least", math.MaxInt: "Perm greatest"} {
		l[name] = image(base, segment(base, perm, 4, 4))
		l[name+" behind"] = image(base, segment(base, rx, 4, 4), segment(base+size, perm, 0, 4))
	}
	return l
}

func sameImage(a, b api.Image) bool {
	if a.Entry != b.Entry || len(a.Segments) != len(b.Segments) {
		return false
	}
	for k, s := range a.Segments {
		r := b.Segments[k]
		if s.Addr != r.Addr || s.Perm != r.Perm || s.Size != r.Size || !bytes.Equal(s.Bytes, r.Bytes) {
			return false
		}
	}
	return true
}

// 4.1, 4.3: images that are not right are refused by all calls, with zero values beside the error (R4).
func TestWrongImages(t *testing.T) {
	for name, i := range wrong() {
		if e := Check(i); e != api.ErrElf || isRight(i) {
			t.Errorf("%s: Check %v", name, e)
		}
		if b, e := Write(i); len(b) != 0 || e != api.ErrElf {
			t.Errorf("%s: Write %d, %v", name, len(b), e)
		}
		if n, e := Size(i); n != 0 || e != api.ErrElf {
			t.Errorf("%s: Size %d, %v", name, n, e)
		}
		if c, l, e := Load(i); !reflect.DeepEqual(c, api.Cpu{}) || len(l) != 0 || e != api.ErrElf {
			t.Errorf("%s: Load %v, %d, %v", name, c, len(l), e)
		}
		for _, at := range []uint64{0, base, base + size, math.MaxUint64} {
			if k, e := Where(i, at); k != 0 || e != api.ErrElf {
				t.Errorf("%s: Where %d, %v", name, k, e)
			}
		}
	}
}

// 4.3: the state and the pages with which an image begins.
func TestLoad(t *testing.T) {
	for name, i := range right() {
		if e := Check(i); e != api.OK {
			t.Errorf("%s: Check %v", name, e)
		}
		c, l, e := Load(i)
		if !reflect.DeepEqual(c, api.Cpu{PC: i.Entry}) || e != api.OK {
			t.Errorf("%s: %v, %v", name, c, e)
		}
		for _, s := range i.Segments {
			whole := make([]byte, (s.Size+size-1)/size*size)
			copy(whole, s.Bytes)
			for k := 0; k < len(whole); k += size {
				if len(l) == 0 || l[0].Base != s.Addr+uint64(k) || l[0].Perm != s.Perm || !bytes.Equal(l[0].Bytes, whole[k:k+size]) {
					t.Fatalf("%s: the page at %d", name, s.Addr+uint64(k))
				}
				l = l[1:]
			}
		}
		if len(l) != 0 {
			t.Errorf("%s: %d pages too many", name, len(l))
		}
	}
}

// 4.5: the pages of Load make a memory with each segment's bytes where it says; none may be written and executed both.
func TestLoadedMemory(t *testing.T) {
	for name, i := range right() {
		_, l, _ := Load(i)
		m, e := mem.From(l)
		if e != api.OK {
			t.Errorf("%s: %v", name, e)
		}
		for _, p := range l {
			if p.Perm&api.PermWrite != 0 && p.Perm&api.PermExec != 0 {
				t.Errorf("%s: a page with Perm %d", name, p.Perm)
			}
		}
		for _, s := range i.Segments {
			b, e := m.Peek(s.Addr, len(s.Bytes))
			if !bytes.Equal(b, s.Bytes) || e != api.OK {
				t.Errorf("%s: the bytes at %d: %v", name, s.Addr, e)
			}
		}
		if _, e := m.Fetch(i.Entry); e != api.OK {
			t.Errorf("%s: Entry: %v", name, e)
		}
	}
}

// 4.3: a segment has its Size bytes from Addr on, whatever stands in them.
func TestWhere(t *testing.T) {
	i := program()
	for _, c := range []struct {
		at   uint64
		k    int
		want api.Errno
	}{
		{base, 0, api.OK}, {base + 4999, 0, api.OK}, {base - 1, 0, api.ErrArg}, {base + 5000, 0, api.ErrArg}, {base + 2*size - 1, 0, api.ErrArg},
		{base + 2*size, 1, api.OK}, {base + 2*size + 10, 1, api.OK}, {base + 2*size + 8999, 1, api.OK}, {base + 2*size + 9000, 0, api.ErrArg},
		{1 << 40, 2, api.OK}, {1<<40 + 1, 0, api.ErrArg}, {1<<40 - 1, 0, api.ErrArg}, {0, 0, api.ErrArg}, {1 << 48, 0, api.ErrArg}, {math.MaxUint64, 0, api.ErrArg},
		{1<<48 + base, 0, api.ErrArg},
	} {
		if k, e := Where(i, c.at); k != c.k || e != c.want {
			t.Errorf("Where(%d): %d, %v", c.at, k, e)
		}
	}
	touch := right()["segments that touch"]
	if k, e := Where(touch, base+size-1); k != 0 || e != api.OK {
		t.Error("touch", k, e)
	}
	if k, e := Where(touch, base+size); k != 1 || e != api.OK {
		t.Error("touch", k, e)
	}
	if k, e := Where(right()["the last bytes ahead of 2^48"], 1<<48-1); k != 0 || e != api.OK {
		t.Error("last", k, e)
	}
}

// The chapter's second example.
func TestSecondExample(t *testing.T) {
	i := example()
	i.Segments[0].Perm = 3
	if e := Check(i); e != api.ErrElf {
		t.Error(e)
	}
	i = example()
	i.Segments[0].Size = 3
	if e := Check(i); e != api.ErrElf {
		t.Error(e)
	}
	i = image(base, segment(65536, rx, 4, 4097), segment(69632, rw, 4, 4))
	if e := Check(i); e != api.ErrElf {
		t.Error(e)
	}
	i.Segments[0].Size = 4096
	if e := Check(i); e != api.OK {
		t.Error(e)
	}
}

// R3: no call changes its argument; answers share nothing with it, nor with one another.
func TestNothingIsShared(t *testing.T) {
	given := program()
	for k := range given.Segments {
		given.Segments[k].Bytes = append(make([]byte, 0, 9000), given.Segments[k].Bytes...)
	}
	b, _ := Write(given)
	file := bytes.Clone(b)
	_, l, _ := Load(given)
	_, first, _ := Load(given)
	Check(given)
	Size(given)
	Where(given, base)
	if !sameImage(given, program()) {
		t.Error("what was given has changed")
	}
	scribble(b)
	for _, p := range l {
		scribble(p.Bytes)
	}
	if !sameImage(given, program()) {
		t.Error("an answer shares with what was given")
	}
	if _, again, _ := Load(given); !reflect.DeepEqual(again, first) {
		t.Error("two answers of Load share")
	}
	for k := range first {
		one := bytes.Clone(first[k].Bytes)
		scribble(first[(k+1)%len(first)].Bytes)
		if !bytes.Equal(one, first[k].Bytes) {
			t.Error("two pages share", k)
		}
	}
	i, e, _ := Read(file)
	if e != api.OK {
		t.Fatal(e)
	}
	scribble(i.Segments[0].Bytes)
	if !bytes.Equal(i.Segments[1].Bytes, program().Segments[1].Bytes) {
		t.Error("two lists of Read share")
	}
	again, e, _ := Read(file)
	if e != api.OK || !sameImage(again, program()) {
		t.Error("Read's answer shares with its file", e)
	}
	scribble(file)
	if !sameImage(again, program()) {
		t.Error("Read's answer shares with its file")
	}
}

// scribble writes over a list and its spare room.
func scribble(b []byte) {
	for i := range b[:cap(b)] {
		b[:cap(b)][i] ^= 0xff
	}
}
