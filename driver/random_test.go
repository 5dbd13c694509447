package driver

import (
	"bytes"
	"math/rand"
	"strings"
	"testing"

	"patina/api"
	"patina/sourcetest"
)

// inputs are some that are read.
func inputs(r *rand.Rand) [][]byte {
	return [][]byte{nil, []byte("\x00\x01\x02A")[:1+r.Intn(4)], {byte(r.Intn(4)), byte(r.Intn(256))}}
}

// wantKeptAll holds a source that is taken to 27.4 with some inputs, and with fuels of which some are too little.
func wantKeptAll(t *testing.T, r *rand.Rand, source string, count ends) {
	t.Helper()
	c := taken(t, source)
	if again, _ := Compile(source); !bytes.Equal(again, c.image) { // R6
		t.Fatal("another image", source)
	}
	for _, in := range inputs(r) {
		if o, _ := c.wantKept(in, 20000, count); o.End == api.EndDone && o.Steps > 0 {
			c.wantKept(in, r.Intn(o.Steps), count)
		}
	}
}

// 27.4 to 27.7: sources that grow statement by statement, as long as they are taken, through the whole compiler; what is not taken tells where.
func TestGrown(t *testing.T) {
	r := rand.New(rand.NewSource(27))
	count := ends{}
	refused := map[api.Errno]int{}
	for range 25 {
		maker := &sourcetest.Maker{Choose: r.Intn}
		source := maker.Grown(40, 2, func(source string) bool {
			d := wantWithin(t, source)
			refused[d.Code]++
			return d.Code == api.OK
		})
		wantKeptAll(t, r, source, count)
	}
	for _, e := range []api.Errno{api.OK, api.ErrMoved, api.ErrBorrow, api.ErrMissing} {
		if refused[e] < 5 {
			t.Error("seldom:", refused)
		}
	}
	if count.done(0, 0) < 30 || count[[4]int{api.EndFuel, 0, api.EndFuel, 0}] < 10 {
		t.Error("seldom:", count)
	}
}

// 27.4 to 27.7: sources that are made at once.
func TestMade(t *testing.T) {
	r := rand.New(rand.NewSource(271))
	count := ends{}
	refused := map[api.Errno]int{}
	for k := range 1200 {
		maker := &sourcetest.Maker{Choose: r.Intn, Plain: k%3 == 0}
		source := maker.Source(r.Intn(3))
		d := wantWithin(t, source)
		refused[d.Code]++
		if d.Code == api.OK {
			wantKeptAll(t, r, source, count)
		}
	}
	if refused[api.OK] < 100 || refused[api.ErrNever] < 100 || refused[api.ErrMoveOut] < 50 || count.done(0, 0) < 100 {
		t.Error("seldom:", refused, count)
	}
}

// wantWithin holds what Compile tells of any bytes to 27.1 and 27.7: an image, or a diagnostic that lies within; and Front and Source to the same.
func wantWithin(t *testing.T, source string) api.Diag {
	t.Helper()
	b, d := Compile(source)
	m, front := Front(source)
	o, run := Source(source, nil, 10)
	for _, x := range []api.Diag{d, front, run} {
		if x.Code < 0 || x.From < 0 || x.From > x.To || x.To > len(source) || x.Code == api.OK && x.To > 0 {
			t.Fatalf("%v\n%q", x, source)
		}
	}
	if (d.Code == api.OK) == (len(b) == 0) || (front.Code == api.OK) == (len(m.Fns) == 0) || (run.Code == api.OK) == (o.End == 0) {
		t.Fatalf("%v %d, %v %d, %v %v\n%q", d, len(b), front, len(m.Fns), run, o, source)
	}
	if d != front && (front.Code != api.OK || d != (api.Diag{Code: api.ErrLong, To: len(source)})) || d.Code == api.OK && run.Code != api.OK {
		t.Fatalf("%v %v %v\n%q", d, front, run, source)
	}
	return d
}

// P1, 27.7: any bytes.
func TestBytes(t *testing.T) {
	r := rand.New(rand.NewSource(272))
	for range 2000 {
		b := make([]byte, r.Intn(60))
		r.Read(b)
		wantWithin(t, string(b))
	}
	words := strings.Fields("fn main ( ) { } let mut x = 1 ; x y f g -> i64 bool Box < > :: new & * + - / % == ! && || if else while return break continue match _ => , . true false struct enum A B E::V print read panic 0 7 // /")
	codes := map[api.Errno]int{}
	for range 20000 {
		l := []string{"fn", "main", "(", ")", "{"}
		if r.Intn(4) == 0 {
			l = nil
		}
		for range r.Intn(12) {
			l = append(l, words[r.Intn(len(words))])
		}
		if r.Intn(2) == 0 {
			l = append(l, ";", "}")
		}
		codes[wantWithin(t, strings.Join(l, " ")).Code]++
	}
	for _, e := range []api.Errno{api.OK, api.ErrExpect, api.ErrMain, api.ErrVar} {
		if codes[e] == 0 {
			t.Error("never:", e, codes)
		}
	}
}

// P1, 27.7: sources that are cut, with a byte changed, left out, or put in, and with a piece twice.
func TestChanged(t *testing.T) {
	r := rand.New(rand.NewSource(273))
	codes := map[api.Errno]int{}
	source := inMain("let l = list(3); let mut n = 1; { let r = &mut n; add(&mut *r, 2); } print(sum(&l) + n); let b = Box::new(1); let c = b; if read() == 0 { let d = c; } else { print(*c); }")
	for at := 0; at <= len(source); at += 3 {
		codes[wantWithin(t, source[:at]).Code]++
		codes[wantWithin(t, source[at:]).Code]++
	}
	for range 4000 {
		s := []byte(source)
		at := r.Intn(len(s))
		switch r.Intn(5) {
		case 0:
			s[at] = byte(r.Intn(256))
		case 1:
			s[at] = s[r.Intn(len(s))]
		case 2:
			s = append(s[:at], s[min(len(s), at+1+r.Intn(6)):]...)
		case 3:
			s = []byte(source[:at] + string(s[r.Intn(len(s))]) + source[at:])
		case 4:
			from := r.Intn(len(s))
			s = []byte(source[:at] + source[from:min(len(s), from+r.Intn(30))] + source[at:])
		}
		codes[wantWithin(t, string(s)).Code]++
	}
	for _, e := range []api.Errno{api.OK, api.ErrUtf, api.ErrByte, api.ErrNumber, api.ErrExpect, api.ErrDup, api.ErrUnknown, api.ErrMain, api.ErrType, api.ErrVar, api.ErrCall, api.ErrField, api.ErrMut, api.ErrMoved} {
		if codes[e] == 0 {
			t.Error("never:", e, codes)
		}
	}
}
