package elf

import "patina/api"

// The parts of a file: its head, which begins with ident, and a row of its table.
const (
	headSize = 64
	rowSize  = 56
	ident    = "\x7fELF\x02\x01\x01\x00\x00\x00\x00\x00\x00\x00\x00\x00"
)

// Where the numbers stand that an image is read from: in the head, and in a row.
const (
	entryAt = 24
	countAt = 56

	permAt  = 4
	addrAt  = 16
	bytesAt = 32
	sizeAt  = 40
)

// number is a number of a file.
type number interface{ uint16 | uint32 | uint64 }

// put writes numbers behind b.
func put[N number](b []byte, l ...N) []byte {
	for _, v := range l {
		for left := ^N(0); left > 0; left >>= 8 {
			b = append(b, byte(v))
			v >>= 8
		}
	}
	return b
}

// get is the number at a place of b.
func get[N number](b []byte, at int) N {
	var v N
	shift := 0
	for left := ^N(0); left > 0; left >>= 8 {
		v |= N(b[at]) << shift
		shift += 8
		at++
	}
	return v
}

// Write is an image's file.
func Write(i api.Image) ([]byte, api.Errno) {
	if e := Check(i); e != api.OK {
		return nil, e
	}
	return file(i), api.OK
}

// Size is how many bytes an image's file has.
func Size(i api.Image) (int, api.Errno) {
	if e := Check(i); e != api.OK {
		return 0, e
	}
	ahead := tableEnd(len(i.Segments))
	for _, s := range i.Segments {
		_, ahead = stand(ahead, len(s.Bytes))
	}
	return ahead, api.OK
}

// tableEnd is where the table of n segments ends.
func tableEnd(n int) int { return headSize + n*rowSize }

// stand tells where n bytes begin and end in a file in which so many stand ahead. If there are none, they are at 0, and the file ends where it did.
func stand(ahead, n int) (from, to int) {
	if n == 0 {
		return 0, ahead
	}
	from = int(raised(uint64(ahead)))
	return from, from + n
}

// file is the file of an image that is right.
func file(i api.Image) []byte {
	b := head(i)
	ahead := tableEnd(len(i.Segments))
	for _, s := range i.Segments {
		from, to := stand(ahead, len(s.Bytes))
		b = append(b, row(s, from)...)
		ahead = to
	}
	for _, s := range i.Segments {
		if len(s.Bytes) > 0 {
			from, _ := stand(len(b), len(s.Bytes))
			b = append(b, make([]byte, from-len(b))...)
			b = append(b, s.Bytes...)
		}
	}
	return b
}

// head is the head of an image's file.
func head(i api.Image) []byte {
	const executable, riscv, version = 2, 243, 1
	b := put[uint16]([]byte(ident), executable, riscv)
	b = put[uint32](b, version)
	b = put[uint64](b, i.Entry, headSize, 0) // the table is right behind the head
	b = put[uint32](b, 0)
	return put[uint16](b, headSize, rowSize, uint16(len(i.Segments)), 0, 0, 0)
}

// row is the row of a segment whose bytes stand at a place.
func row(s api.Segment, from int) []byte {
	const loaded = 1
	b := put[uint32](nil, loaded, uint32(s.Perm))
	return put[uint64](b, uint64(from), s.Addr, s.Addr, uint64(len(s.Bytes)), s.Size, api.PageSize)
}

// Read is the image of a file, or what is wrong and where.
func Read(b []byte) (api.Image, api.Errno, int) {
	if len(b) < headSize {
		return api.Image{}, api.ErrElf, len(b)
	}
	n := int(get[uint16](b, countAt))
	if n == 0 || n > MaxSegments {
		return api.Image{}, api.ErrElf, countAt
	}
	if len(b) < tableEnd(n) {
		return api.Image{}, api.ErrElf, len(b)
	}
	i, whole := said(b, n)
	if !whole {
		return api.Image{}, api.ErrElf, len(b)
	}
	if Check(i) != api.OK {
		return api.Image{}, api.ErrElf, headSize
	}
	if at, same := unlike(b, file(i)); !same {
		return api.Image{}, api.ErrElf, at
	}
	return copied(i), api.OK, 0
}

// said is the image of n segments that b says, its lists pieces of b, and whether all its bytes are there.
func said(b []byte, n int) (api.Image, bool) {
	i := api.Image{Entry: get[uint64](b, entryAt)}
	ahead := tableEnd(n)
	for at := headSize; at < tableEnd(n); at += rowSize {
		count := get[uint64](b, at+bytesAt)
		if count > uint64(len(b)) { // so great that its end may go round
			return api.Image{}, false
		}
		from, to := stand(ahead, int(count))
		if to > len(b) {
			return api.Image{}, false
		}
		i.Segments = append(i.Segments, api.Segment{
			Addr:  get[uint64](b, at+addrAt),
			Perm:  int(get[uint32](b, at+permAt)),
			Bytes: b[from : from+int(count)],
			Size:  get[uint64](b, at+sizeAt),
		})
		ahead = to
	}
	return i, true
}

// unlike is the first place at which two lists of bytes are not the same, if they aren't.
func unlike(a, b []byte) (at int, same bool) {
	n := min(len(a), len(b))
	for k := range n {
		if a[k] != b[k] {
			return k, false
		}
	}
	return n, len(a) == len(b)
}
