package types

import (
	"math"
	"math/rand"
	"reflect"
	"regexp"
	"slices"
	"strconv"
	"strings"
	"testing"

	"patina/api"
	"patina/items"
)

// shape is a type as a thing: what it is made of, down to a word or a definition.
type shape struct {
	ahead string // "&", "&mut ", "Box<", or empty
	inner *shape // what it points to
	word  string // i64, bool, ()
	def   *definition
}

// definition is a struct or an enum; a nil part is a variant without a payload.
type definition struct {
	name  string
	enum  bool
	parts []*shape
}

func (s *shape) text() string {
	switch {
	case s.ahead == "Box<":
		return "Box<" + s.inner.text() + ">"
	case s.inner != nil:
		return s.ahead + s.inner.text()
	case s.def != nil:
		return s.def.name
	}
	return s.word
}

func (s *shape) words() int {
	switch {
	case s == nil || s.word == "()":
		return 0
	case s.def == nil:
		return 1
	}
	sum, most := 0, 0
	for _, p := range s.def.parts {
		sum += p.words()
		most = max(most, p.words())
	}
	if s.def.enum {
		return most + 1
	}
	return sum
}

func (s *shape) owns() bool {
	if s == nil || s.def == nil {
		return s != nil && s.ahead == "Box<"
	}
	return slices.ContainsFunc(s.def.parts, (*shape).owns)
}

func (s *shape) copied() bool { return s.word != "" || s.ahead == "&" }

// at is the shape that one step leads to; nil: none.
func (s *shape) at(step int) *shape {
	if step == -1 {
		return s.inner
	}
	if s.def == nil || s.def.enum != (step < 0) {
		return nil
	}
	for k, p := range s.def.parts {
		if !s.def.enum && step == k || s.def.enum && step == -(k+2) {
			return p
		}
	}
	return nil
}

// maker makes items at random, each struct and enum of those ahead of it, or of any behind a Box.
type maker struct {
	r    *rand.Rand
	defs []*definition
}

func (m *maker) leaf() *shape { return &shape{word: []string{"i64", "bool", "()"}[m.r.Intn(3)]} }

// held is a type that a part may have, of the first so many definitions.
func (m *maker) held(so int) *shape {
	switch m.r.Intn(3) {
	case 0:
		return &shape{ahead: "Box<", inner: m.held(len(m.defs))}
	case 1:
		if so > 0 {
			return &shape{def: m.defs[m.r.Intn(so)]}
		}
	}
	return m.leaf()
}

func (m *maker) any() *shape {
	s := m.held(len(m.defs))
	switch m.r.Intn(4) {
	case 0:
		return &shape{ahead: "&", inner: s}
	case 1:
		return &shape{ahead: "&mut ", inner: s}
	}
	return s
}

// items are right items, with definitions in an order of their own.
func (m *maker) items() api.Items {
	for {
		m.defs = nil
		for k := range 1 + m.r.Intn(6) {
			m.defs = append(m.defs, &definition{name: "D" + strconv.Itoa(k), enum: m.r.Intn(2) == 0})
		}
		for k, d := range m.defs {
			least := 0
			if d.enum {
				least = 1
			}
			for range least + m.r.Intn(4) {
				var p *shape
				if !d.enum || m.r.Intn(3) > 0 {
					p = m.held(k)
				}
				d.parts = append(d.parts, p)
			}
		}
		if it := m.listed(); items.Check(it) == api.OK { // else a type is too great
			return it
		}
	}
}

func (m *maker) listed() api.Items {
	it := api.Items{Fns: []api.Fn{{Name: "main", Ret: "()", Node: m.r.Intn(9)}}}
	for _, k := range m.r.Perm(len(m.defs)) {
		d := m.defs[k]
		var l []api.Field
		for i, p := range d.parts {
			f := field("p"+strconv.Itoa(i), "")
			if p != nil {
				f.Type = p.text()
			}
			l = append(l, f)
		}
		if d.enum {
			it.Enums = append(it.Enums, api.Enum{Name: d.name, Variants: l})
		} else {
			it.Structs = append(it.Structs, api.Struct{Name: d.name, Fields: l})
		}
	}
	return it
}

// path is a way down from a shape, with a number that does not fit now and then.
func (m *maker) path(s *shape, most int) []int {
	var l []int
	for range m.r.Intn(most + 1) {
		step := -1
		if s != nil && s.def != nil {
			step = m.r.Intn(len(s.def.parts) + 1)
			if s.def.enum {
				step = -2 - step
			}
		}
		if m.r.Intn(20) == 0 {
			step = []int{0, 1, -1, -2, -3, math.MaxInt, math.MinInt, m.r.Int() - m.r.Int()}[m.r.Intn(8)]
		}
		l = append(l, step)
		if s != nil {
			s = s.at(step)
		}
	}
	return l
}

// wantShape holds all that is told of a type to what its shape says.
func wantShape(t *testing.T, it api.Items, s *shape) {
	t.Helper()
	text := s.text()
	n, e1 := Words(it, text)
	c, e2 := Copy(it, text)
	o, e3 := Owns(it, text)
	if !Right(it, text) || n != s.words() || c != s.copied() || o != s.owns() || e1 != api.OK || e2 != api.OK || e3 != api.OK {
		t.Fatalf("%s of %v: %d %v %v, %v %v %v", text, it, n, c, o, e1, e2, e3)
	}
	if o && c {
		t.Fatalf("%s owns and is copied", text)
	}
	in, points := Inner(text)
	if points != (s.inner != nil) || points && in != s.inner.text() {
		t.Fatalf("Inner of %s: %q", text, in)
	}
	ref, mut := Ref(text)
	if ref != (s.ahead == "&" || s.ahead == "&mut ") || mut != (s.ahead == "&mut ") {
		t.Fatalf("Ref of %s: %v, %v", text, ref, mut)
	}
	wantOffsets(t, it, s)
}

// 15.4: a struct's words are its last field's offset and that one's words.
func wantOffsets(t *testing.T, it api.Items, s *shape) {
	t.Helper()
	at := 0
	if s.def != nil && !s.def.enum {
		for k, p := range s.def.parts {
			if n, e := Offset(it, s.text(), k); n != at || e != api.OK {
				t.Fatalf("Offset of %s, %d: %d, %v, not %d", s.text(), k, n, e, at)
			}
			at += p.words()
		}
		if at != s.words() {
			t.Fatalf("%s has %d words, not %d", s.text(), s.words(), at)
		}
		if n, e := Offset(it, s.text(), len(s.def.parts)); n != 0 || e != api.ErrNone {
			t.Fatalf("Offset of %s: %d, %v", s.text(), n, e)
		}
		return
	}
	if n, e := Offset(it, s.text(), 0); n != 0 || e != api.ErrNone {
		t.Fatalf("Offset of %s: %d, %v", s.text(), n, e)
	}
}

// 15.1 to 15.4: types of items that were made, and paths from them.
func TestMadeTypes(t *testing.T) {
	m := &maker{r: rand.New(rand.NewSource(15))}
	fitting := 0
	for range 400 {
		it := m.items()
		for _, d := range m.defs {
			wantShape(t, it, &shape{def: d})
		}
		for range 30 {
			s := m.any()
			wantShape(t, it, s)
			path := m.path(s, 5)
			end := s
			for _, step := range path {
				if end != nil {
					end = end.at(step)
				}
			}
			got, e := At(it, s.text(), path)
			if end == nil && (got != "" || e != api.ErrNone) || end != nil && (got != end.text() || e != api.OK) {
				t.Fatalf("At of %s, %v of %v: %q, %v", s.text(), path, it, got, e)
			}
			if end != nil {
				fitting++
			}
			cut := m.r.Intn(len(path) + 1)
			if mid, f := At(it, s.text(), path[:cut]); f == api.OK {
				if again, g := At(it, mid, path[cut:]); again != got || g != e {
					t.Fatalf("At of %s, %v and %v: %q, %v and %q, %v", s.text(), path[:cut], path[cut:], again, g, got, e)
				}
			}
		}
	}
	if fitting < 3000 {
		t.Error("few paths fit", fitting)
	}
}

// isTypeText is the chapter's form of a type, as a pattern of letters; the Boxes' signs are counted.
func isTypeText(it api.Items, s string) bool {
	form := regexp.MustCompile(`^(?:&|&mut )?((?:Box<)*)(i64|bool|\(\)|[A-Za-z_][A-Za-z_0-9]*)(>*)$`)
	l := form.FindStringSubmatch(s)
	if l == nil || len(l[1]) != 4*len(l[3]) {
		return false
	}
	if l[2] == "i64" || l[2] == "bool" || l[2] == "()" {
		return true
	}
	for _, x := range it.Structs {
		if x.Name == l[2] {
			return true
		}
	}
	for _, x := range it.Enums {
		if x.Name == l[2] {
			return true
		}
	}
	return false
}

// 15.1: texts that are one or a few bytes away from types.
func TestNearTypes(t *testing.T) {
	m := &maker{r: rand.New(rand.NewSource(16))}
	pieces := []string{"", "", "&", "&mut ", "mut", " ", "Box<", "<", ">", "Box", "i64", "bool", "()", "D0", "D1", "D", "0", "!", "(", ")", "\x00", "é"}
	right := 0
	for range 150 {
		it := m.items()
		for range 60 {
			s := m.any().text()
			for range m.r.Intn(3) {
				from := m.r.Intn(len(s) + 1)
				to := from + m.r.Intn(min(len(s)-from, 3)+1)
				s = s[:from] + pieces[m.r.Intn(len(pieces))] + s[to:]
			}
			want := isTypeText(it, s)
			if Right(it, s) != want {
				t.Fatalf("Right of %q: %v, of %v", s, !want, it)
			}
			if !want {
				wantErrors(t, it, s, api.ErrArg)
			} else {
				right++
			}
		}
	}
	if right < 1000 {
		t.Error("few are right", right)
	}
}

// 15.2, P1: of any text, Inner and Ref are what the beginnings say.
func TestAnyTexts(t *testing.T) {
	r := rand.New(rand.NewSource(17))
	pieces := []string{"&", "&mut ", "&mut", "mut ", " ", "Box<", "Box", "<", ">", "S", "!", "", "\xff"}
	inner := regexp.MustCompile(`(?s)^(?:&mut (.*)|&(.*)|Box<(.*)>)$`)
	for range 20000 {
		var s strings.Builder
		for range r.Intn(5) {
			s.WriteString(pieces[r.Intn(len(pieces))])
		}
		l := inner.FindStringSubmatch(s.String())
		got, ok := Inner(s.String())
		if ok != (l != nil) || l != nil && got != l[1]+l[2]+l[3] || l == nil && got != "" {
			t.Fatalf("Inner of %q: %q, %v", s.String(), got, ok)
		}
		ref, mut := Ref(s.String())
		if ref != (strings.Index(s.String(), "&") == 0) || mut != (strings.Index(s.String(), "&mut ") == 0) {
			t.Fatalf("Ref of %q: %v, %v", s.String(), ref, mut)
		}
	}
}

// anyItems are items of any names and types, most of them wrong.
func anyItems(r *rand.Rand) api.Items {
	texts := []string{"", "S", "E", "T", "i64", "bool", "()", "&S", "&mut E", "Box<S>", "Box<E>", "Box<&S>", "!", "::", "main", "a b", "\xff"}
	text := func() string { return texts[r.Intn(len(texts))] }
	fields := func() []api.Field {
		var l []api.Field
		for range r.Intn(4) {
			l = append(l, field(text(), text()))
		}
		return l
	}
	var it api.Items
	for range r.Intn(3) {
		it.Structs = append(it.Structs, api.Struct{Name: text(), Fields: fields()})
		it.Enums = append(it.Enums, api.Enum{Name: text(), Variants: fields()})
	}
	for range r.Intn(3) {
		it.Fns = append(it.Fns, api.Fn{Name: text(), Params: fields(), Muts: make([]bool, r.Intn(4)), Ret: text(), Node: r.Intn(9) - 2})
	}
	return it
}

// P1: of any items, texts and numbers each call ends, and tells ErrItems of those that are not right.
func TestAnyItems(t *testing.T) {
	r := rand.New(rand.NewSource(18))
	for range 5000 {
		it := anyItems(r)
		if r.Intn(2) == 0 {
			it.Fns = []api.Fn{{Name: "main", Ret: "()"}}
		}
		for _, s := range []string{"", "S", "E", "&S", "Box<E>", "i64", "a b", "::", "!"} {
			if items.Check(it) != api.OK {
				wantErrors(t, it, s, api.ErrItems)
			} else if Right(it, s) != isTypeText(it, s) {
				t.Fatal(it, s)
			}
		}
	}
}

// R3: what is handed in is not changed, spare room too. R6: the same call tells the same.
func TestMemory(t *testing.T) {
	it := sample()
	it.Structs[0].Fields = append(it.Structs[0].Fields, field("c", "E"))[:2]
	path := []int{1, -1, 1, -1, 7, 7}
	same := sample()
	for range 2 {
		for s, want := range map[string]string{"S": "S", "&E": "", "Box<S>": ""} {
			got, e := At(it, s, path[:4])
			if got != want || (e == api.OK) != (want != "") {
				t.Error(s, got, e)
			}
			Words(it, s)
			Owns(it, s)
			Copy(it, s)
			Offset(it, s, 1)
		}
	}
	if !reflect.DeepEqual(it, same) || !slices.Equal(path, []int{1, -1, 1, -1, 7, 7}) || it.Structs[0].Fields[:3][2] != field("c", "E") {
		t.Error("changed", it, path)
	}
}
