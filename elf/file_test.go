package elf

import (
	"bytes"
	"debug/elf"
	"encoding/binary"
	"math"
	"math/big"
	"math/rand"
	"strconv"
	"testing"

	"patina/api"
)

// expected is an image's file by the chapter's tables, laid into bytes that are 0.
func expected(i api.Image) []byte {
	b := make([]byte, 64+56*len(i.Segments))
	put := func(at int, width int, v uint64) {
		for k := range width {
			b[at+k] = byte(v >> (8 * k))
		}
	}
	copy(b, []byte{127, 69, 76, 70, 2, 1, 1})
	put(16, 2, 2)
	put(18, 2, 243)
	put(20, 4, 1)
	put(24, 8, i.Entry)
	put(32, 8, 64)
	put(52, 2, 64)
	put(54, 2, 56)
	put(56, 2, uint64(len(i.Segments)))
	for k, s := range i.Segments {
		at := 64 + 56*k
		put(at, 4, 1)
		put(at+4, 4, uint64(s.Perm))
		put(at+16, 8, s.Addr)
		put(at+24, 8, s.Addr)
		put(at+32, 8, uint64(len(s.Bytes)))
		put(at+40, 8, s.Size)
		put(at+48, 8, 4096)
		if len(s.Bytes) > 0 {
			for len(b)%4096 != 0 {
				b = append(b, 0)
			}
			put(at+8, 8, uint64(len(b)))
			b = append(b, s.Bytes...)
		}
	}
	return b
}

// 4.1, 4.4, P9: a file is as the chapter's tables have it, as long as Size says, and is read as it was written.
func TestFiles(t *testing.T) {
	for name, i := range right() {
		b, e := Write(i)
		if want := expected(i); !bytes.Equal(b, want) || e != api.OK {
			t.Errorf("%s: Write: %d bytes, not %d; %v", name, len(b), len(want), e)
		}
		if n, e := Size(i); n != len(b) || e != api.OK {
			t.Errorf("%s: Size: %d, %v", name, n, e)
		}
		if j, e, at := Read(b); !sameImage(i, j) || e != api.OK || at != 0 {
			t.Errorf("%s: Read: %v at %d", name, e, at)
		}
	}
}

// 4.1: an ELF reader of another hand reads the file as it was meant.
func TestFilesByAnotherReader(t *testing.T) {
	for name, i := range right() {
		b, _ := Write(i)
		f, err := elf.NewFile(bytes.NewReader(b))
		if err != nil {
			t.Errorf("%s: %v", name, err)
			continue
		}
		if f.Class != elf.ELFCLASS64 || f.ByteOrder != binary.LittleEndian || f.Type != elf.ET_EXEC || f.Machine != elf.EM_RISCV || f.Entry != i.Entry || len(f.Progs) != len(i.Segments) {
			t.Errorf("%s: %v", name, f.FileHeader)
			continue
		}
		for k, p := range f.Progs {
			s := i.Segments[k]
			l := make([]byte, p.Filesz)
			if p.Filesz > 0 {
				p.ReadAt(l, 0)
			}
			if p.Type != elf.PT_LOAD || int(p.Flags) != s.Perm || p.Vaddr != s.Addr || p.Memsz != s.Size || !bytes.Equal(l, s.Bytes) || (p.Filesz > 0 && p.Off%p.Align != p.Vaddr%p.Align) {
				t.Errorf("%s: %v", name, p.ProgHeader)
			}
		}
	}
}

// The chapter's first example.
func TestFirstExample(t *testing.T) {
	b, e := Write(example())
	if len(b) != 4100 || e != api.OK || !bytes.Equal(b[4096:], []byte{115, 0, 0, 0}) {
		t.Fatal(len(b), e)
	}
	for _, c := range []struct {
		b    []byte
		want int
	}{
		{b[:63], 63},
		{changed(b, 0, 0), 0},
		{changed(b, 56, 0), 56},
		{changed(b, 200, 1), 200},
		{changed(b, 24, 4), 64},
	} {
		refused(t, "example", c.b, c.want)
	}
}

// changed is a file with another byte at a place.
func changed(b []byte, at int, v byte) []byte {
	c := bytes.Clone(b)
	c[at] = v
	return c
}

// with is a file with another number of 8 bytes at a place.
func with(b []byte, at int, v uint64) []byte {
	c := bytes.Clone(b)
	binary.LittleEndian.PutUint64(c[at:], v)
	return c
}

// refused holds Read to ErrElf and a place, with no image beside it (R4).
func refused(t *testing.T, what string, b []byte, want int) {
	t.Helper()
	i, e, at := Read(b)
	if e != api.ErrElf || at != want || i.Entry != 0 || i.Segments != nil {
		t.Errorf("%s: %v, %v at %d, not %d", what, i, e, at, want)
	}
}

// 4.2, 4.6: a file that is cut short anywhere, or has a byte more.
func TestCutFiles(t *testing.T) {
	for _, i := range []api.Image{example(), program(), right()["eight segments"]} {
		b, _ := Write(i)
		for n := range len(b) {
			if n < 700 || n%size < 3 || n%size > size-3 || n > len(b)-20 || n%97 == 0 {
				refused(t, "cut", b[:n:n], n)
			}
		}
		for _, tail := range [][]byte{{0}, {1}, make([]byte, size), b} {
			refused(t, "longer", append(bytes.Clone(b), tail...), len(b))
		}
	}
	b, _ := Write(example())
	refused(t, "the head alone, with no segment", changed(b, 56, 0)[:64], 56)
	refused(t, "the head alone, with nine", changed(b, 56, 9)[:64], 56)
	refused(t, "the head alone, with eight", changed(b, 56, 8)[:64], 64)
	refused(t, "a head that is cut, with nine", changed(b, 56, 9)[:63], 63)
	refused(t, "nothing", nil, 0)
	refused(t, "nothing", []byte{}, 0)
}

// 4.2: a segment without bytes may be the last one; then the file ends with what is ahead, or with the table.
func TestFileThatEndsWithItsTable(t *testing.T) {
	b, _ := Write(image(base, segment(base, rx, 4, 4), segment(base+size, rw, 0, 9)))
	if len(b) != 4100 {
		t.Error(len(b))
	}
	// No image that is right has no bytes at all: what is left of one ends with the table, and has no Entry.
	refused(t, "table alone", with(b[:64+2*56], 64+32, 0), 64)
	refused(t, "bytes that are not there", b[:64+2*56], 64+2*56)
}

// isRight tells whether an image is right, in the chapter's words.
func isRight(i api.Image) bool {
	if len(i.Segments) < 1 || len(i.Segments) > 8 {
		return false
	}
	number := func(n uint64) *big.Int { return new(big.Int).SetUint64(n) }
	behind := new(big.Int)
	pages, entry := 0, i.Entry%4 == 0
	found := false
	for _, s := range i.Segments {
		end := new(big.Int).Add(number(s.Addr), number(s.Size))
		if s.Addr%4096 != 0 || s.Perm != 1 && s.Perm != 2 && s.Perm != 4 && s.Perm != 5 && s.Perm != 6 {
			return false
		}
		if s.Size < 1 || s.Size > 4096*4096 || len(s.Bytes) > int(s.Size) || end.Cmp(number(1<<48)) > 0 || number(s.Addr).Cmp(behind) < 0 {
			return false
		}
		pages += int((s.Size + 4095) / 4096)
		behind = number((s.Addr + s.Size + 4095) / 4096 * 4096)
		for k := range len(s.Bytes) - 3 {
			found = found || s.Perm%2 == 1 && s.Addr+uint64(k) == i.Entry
		}
	}
	return pages <= 4096 && entry && found
}

// readBy is what Read must tell, in the chapter's words.
func readBy(b []byte) (api.Image, api.Errno, int) {
	bad := func(at int) (api.Image, api.Errno, int) { return api.Image{}, api.ErrElf, at }
	if len(b) < 64 {
		return bad(len(b))
	}
	n := int(b[56]) + 256*int(b[57])
	if n < 1 || n > 8 {
		return bad(56)
	}
	if len(b) < 64+56*n {
		return bad(len(b))
	}
	i := api.Image{Entry: binary.LittleEndian.Uint64(b[24:])}
	from := uint64(64 + 56*n)
	for k := range n {
		row := b[64+56*k:]
		s := api.Segment{Addr: binary.LittleEndian.Uint64(row[16:]), Perm: int(binary.LittleEndian.Uint32(row[4:])), Size: binary.LittleEndian.Uint64(row[40:])}
		count := binary.LittleEndian.Uint64(row[32:])
		if count > 0 {
			for from%4096 != 0 {
				from++
			}
			if from > uint64(len(b)) || count > uint64(len(b))-from {
				return bad(len(b))
			}
			s.Bytes = b[from : from+count]
			from += count
		}
		i.Segments = append(i.Segments, s)
	}
	if !isRight(i) {
		return bad(64)
	}
	file := expected(i)
	for at := range min(len(b), len(file)) {
		if b[at] != file[at] {
			return bad(at)
		}
	}
	if len(b) != len(file) {
		return bad(min(len(b), len(file)))
	}
	return i, api.OK, 0
}

// lookAt holds Read to what the chapter says of some bytes, and tells whether it took them.
func lookAt(t *testing.T, what string, b []byte) bool {
	t.Helper()
	given := bytes.Clone(b)
	want, f, place := readBy(b)
	i, e, at := Read(b)
	if !sameImage(i, want) || e != f || at != place {
		t.Errorf("%s: %v at %d, not %v at %d", what, e, at, f, place)
	}
	if !bytes.Equal(b, given) {
		t.Errorf("%s: Read changed what it was given", what)
	}
	if e != api.OK {
		return false
	}
	if d, f := Write(i); !bytes.Equal(d, b) || f != api.OK || Check(i) != api.OK {
		t.Errorf("%s: not its file", what)
	}
	return true
}

// 4.2, 4.4, 4.6: each byte of the head and the table changed by one, and some of those behind.
func TestEachFieldChanged(t *testing.T) {
	for _, i := range []api.Image{example(), program()} {
		b, _ := Write(i)
		table := 64 + 56*len(i.Segments)
		for at := range b {
			if at < table || at%101 == 0 || at%size < 3 || at%size > size-3 {
				for _, by := range []byte{1, 255, 128} {
					lookAt(t, "byte "+strconv.Itoa(at)+" and "+strconv.Itoa(int(by)), changed(b, at, b[at]+by))
				}
			}
		}
	}
}

// 4.2: which fault is told of each field.
func TestWhereFieldsAreRefused(t *testing.T) {
	i := image(base, segment(base, rx, 8, 100), segment(base+2*size, rw, 8, 100))
	b, _ := Write(i)
	const one, two = 64, 64 + 56
	for _, c := range []struct {
		what string
		b    []byte
		want int
	}{
		{"the first byte", changed(b, 0, 126), 0},
		{"the third byte", changed(b, 2, 0), 2},
		{"32 bits", changed(b, 4, 1), 4},
		{"the great end first", changed(b, 5, 2), 5},
		{"a version", changed(b, 6, 0), 6},
		{"a system", changed(b, 7, 3), 7},
		{"the last of nine noughts", changed(b, 15, 1), 15},
		{"another kind", changed(b, 16, 3), 16},
		{"another machine", changed(b, 18, 62), 18},
		{"another version", changed(b, 20, 2), 20},
		{"Entry no multiple", changed(b, 24, 1), 64},
		{"Entry at the last four", changed(b, 24, 4), -1},
		{"Entry behind them", changed(b, 24, 8), 64},
		{"Entry far away", changed(b, 31, 1), 64},
		{"another table", changed(b, 32, 65), 32},
		{"sections", changed(b, 40, 1), 40},
		{"flags", changed(b, 48, 1), 48},
		{"a longer head", changed(b, 52, 65), 52},
		{"a longer row", changed(b, 54, 57), 54},
		{"no segment", changed(b, 56, 0), 56},
		{"nine segments", changed(b, 56, 9), 56},
		{"257 segments", changed(b, 57, 1), 56},
		{"one segment less", changed(b, 56, 1), two},
		{"one segment more", changed(b, 56, 3), 64}, // its row is 0: no Perm
		{"the sections' size", changed(b, 58, 64), 58},
		{"their number", changed(b, 60, 1), 60},
		{"their names", changed(b, 62, 1), 62},
		{"another kind of segment", changed(b, one, 2), one},
		{"a kind above", changed(b, one+3, 1), one + 3},
		{"Perm 0", changed(b, one+4, 0), 64},
		{"Perm 3", changed(b, one+4, 3), 64},
		{"Perm 13", changed(b, one+4, 13), 64},
		{"Perm 5 and 2^24", changed(b, one+7, 1), 64},
		{"Perm 1", changed(b, one+4, 1), -1},
		{"Perm 4", changed(b, one+4, 4), 64},
		{"the second Perm", changed(b, two+4, 4), -1},
		{"another place of bytes", with(b, one+8, 8192), one + 9},
		{"no place of bytes", with(b, two+8, 0), two + 9},
		{"Addr no multiple", with(b, one+16, base+1), 64},
		{"Addr ahead, without Entry", with(b, one+16, base-size), 64},
		{"the second Addr further", with(b, two+16, base+3*size), two + 25},
		{"the second Addr at the first", with(b, two+16, base), 64},
		{"the physical Addr", with(b, one+24, 0), one + 26},
		{"a byte less", with(b, two+32, 7), len(b) - 1},
		{"a byte more", with(b, two+32, 9), len(b)},
		{"all bytes", with(b, two+32, math.MaxUint64), len(b)},
		{"2^63 bytes", with(b, one+32, 1<<63), len(b)},
		{"bytes that go round", with(b, one+32, math.MaxUint64-4095), len(b)},
		{"the first one's bytes to the second one's", with(b, one+32, 101), 64},
		{"no bytes of the first one", with(b, one+32, 0), 64},
		{"no bytes of the second one", with(b, two+32, 0), two + 9},
		{"a Size less than bytes", with(b, one+40, 7), 64},
		{"a Size as the bytes", with(b, one+40, 8), -1},
		{"a Size of two pages", with(b, one+40, 2*size), -1},
		{"a Size of two pages and one", with(b, one+40, 2*size+1), 64},
		{"a Size 2^64 - 1", with(b, two+40, math.MaxUint64), 64},
		{"another PageSize", with(b, one+48, 1), one + 48},
		{"a byte behind the table", changed(b, two+56, 1), two + 56},
		{"the last byte between", changed(b, 4095, 1), 4095},
		{"a byte between bytes", changed(b, 4096+8, 1), 4096 + 8},
		{"a byte of code", changed(b, 4096, 200), -1},
	} {
		if c.want >= 0 {
			refused(t, c.what, c.b, c.want)
			continue
		}
		j, e, at := Read(c.b)
		if e != api.OK || at != 0 || sameImage(i, j) {
			t.Errorf("%s: %v at %d", c.what, e, at)
		}
		if d, _ := Write(j); !bytes.Equal(d, c.b) {
			t.Errorf("%s: not its file", c.what)
		}
	}
}

// 4.2, 4.4: a wrong image's file, were there one, is refused at 64.
func TestFilesOfWrongImages(t *testing.T) {
	for name, i := range wrong() {
		if len(i.Segments) == 0 || len(i.Segments) > MaxSegments {
			continue
		}
		short := true // a Perm of 32 bits
		for _, s := range i.Segments {
			short = short && s.Perm == int(uint32(s.Perm))
		}
		if short {
			refused(t, name, expected(i), 64)
		}
	}
}

// P1, 4.4: whatever Read is given, it ends; what it takes is right, and Write of it is what was read.
func TestAnyBytes(t *testing.T) {
	r := rand.New(rand.NewSource(3))
	taken := 0
	var files [][]byte
	for _, name := range []string{"example", "program", "eight segments", "segments that touch", "Entry in the second segment"} {
		b, _ := Write(right()[name])
		files = append(files, b)
	}
	for range 6000 {
		b := bytes.Clone(files[r.Intn(len(files))])
		for range r.Intn(4) {
			at := r.Intn(200)
			switch r.Intn(4) {
			case 0:
				b[at] = byte(r.Uint32())
			case 1:
				b[at] += byte(r.Intn(3)) - 1
			case 2:
				binary.LittleEndian.PutUint64(b[at/8*8:], r.Uint64()>>r.Intn(64))
			case 3:
				b[r.Intn(len(b))] ^= 1 << r.Intn(8)
			}
		}
		if r.Intn(10) == 0 {
			b = b[:r.Intn(len(b))]
		}
		if lookAt(t, "bytes", b) {
			taken++
		}
	}
	if taken < 1000 {
		t.Error("taken", taken)
	}
}

// 4.4, P9: images at random are read as they were written.
func TestImagesThereAndBack(t *testing.T) {
	r := rand.New(rand.NewSource(4))
	for range 300 {
		var i api.Image
		addr := uint64(r.Intn(5)) * size
		for range 1 + r.Intn(MaxSegments) {
			s := segment(addr, []int{1, 2, 4, 5, 6}[r.Intn(5)], r.Intn(3)*r.Intn(5000), uint64(1+r.Intn(9000)))
			s.Size = max(s.Size, uint64(len(s.Bytes)))
			i.Segments = append(i.Segments, s)
			addr += (s.Size+size-1)/size*size + uint64(r.Intn(2)*r.Intn(1<<20))*size
		}
		k := r.Intn(len(i.Segments))
		i.Segments[k].Perm = []int{1, 5}[r.Intn(2)]
		i.Segments[k].Bytes = some(4 + r.Intn(int(i.Segments[k].Size+3)))
		i.Segments[k].Size = max(i.Segments[k].Size, 4)
		if len(i.Segments[k].Bytes) > int(i.Segments[k].Size) {
			i.Segments[k].Bytes = i.Segments[k].Bytes[:i.Segments[k].Size]
		}
		i.Entry = i.Segments[k].Addr + uint64(r.Intn(len(i.Segments[k].Bytes)-3))/4*4
		b, e := Write(i)
		if e != api.OK || !bytes.Equal(b, expected(i)) {
			t.Fatal(i, e)
		}
		j, e, at := Read(b)
		if !sameImage(i, j) || e != api.OK || at != 0 {
			t.Fatal(i, e, at)
		}
		if n, e := Size(i); n != len(b) || e != api.OK {
			t.Fatal("Size", n, e)
		}
	}
}
