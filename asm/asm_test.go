package asm

import (
	"bytes"
	"math"
	"math/rand"
	"reflect"
	"slices"
	"strings"
	"testing"

	"patina/api"
)

func label(name string) api.Item { return api.Item{Kind: api.ItLabel, Name: name} }

func instr(i api.Instr) api.Item { return api.Item{Kind: api.ItInstr, I: i} }

func li(rd int, n int64) api.Item {
	return api.Item{Kind: api.ItLi, I: api.Instr{Rd: rd, Imm: n}}
}

func la(rd int, name string) api.Item {
	return api.Item{Kind: api.ItLa, Name: name, I: api.Instr{Rd: rd}}
}

func jump(name string) api.Item { return api.Item{Kind: api.ItJump, Name: name} }

func call(rd int, name string) api.Item {
	return api.Item{Kind: api.ItCall, Name: name, I: api.Instr{Rd: rd}}
}

func branch(op, rs1, rs2 int, name string) api.Item {
	return api.Item{Kind: api.ItBranch, Name: name, I: api.Instr{Op: op, Rs1: rs1, Rs2: rs2}}
}

func word(n int64) api.Item { return api.Item{Kind: api.ItWord, I: api.Instr{Imm: n}} }

func space(n int64) api.Item { return api.Item{Kind: api.ItSpace, I: api.Instr{Imm: n}} }

// spaces are as many as n bytes need.
func spaces(n int64) []api.Item {
	l := []api.Item{space(n % greatestSpace)}
	for range n / greatestSpace {
		l = append(l, space(greatestSpace))
	}
	return l
}

var nop = instr(api.Instr{Op: api.OpAddi})

// together are lists, one behind the other.
func together(l ...[]api.Item) []api.Item { return slices.Concat(l...) }

// wantError holds both calls to an error and a place, with zero values beside it (R4).
func wantError(t *testing.T, what string, text, data []api.Item, at, dataAt uint64, want api.Errno, place int) {
	t.Helper()
	c, e, k := Assemble(text, data, at, dataAt)
	if e != want || k != place {
		t.Errorf("%s: Assemble tells %v of %d, not %v of %d", what, e, k, want, place)
	}
	l, e, k := Sizes(text, data, at, dataAt)
	if e != want || k != place {
		t.Errorf("%s: Sizes tells %v of %d, not %v of %d", what, e, k, want, place)
	}
	if want != api.OK && (len(c.Text) > 0 || len(c.Data) > 0 || len(c.Labels) > 0 || len(l) > 0) {
		t.Errorf("%s: beside an error: %v, %v", what, c, l)
	}
}

func made(t *testing.T, text, data []api.Item, at, dataAt uint64) (api.Code, []int) {
	t.Helper()
	c, e, k := Assemble(text, data, at, dataAt)
	if e != api.OK || k != 0 {
		t.Fatal("Assemble", e, k)
	}
	l, e, k := Sizes(text, data, at, dataAt)
	if e != api.OK || k != 0 || len(l) != len(text) {
		t.Fatal("Sizes", e, k, len(l))
	}
	n := 0
	for _, size := range l {
		n += size
	}
	if n != len(c.Text) {
		t.Fatal("sizes and bytes", n, len(c.Text))
	}
	return c, l
}

// long is a name of n bytes.
func long(n int) string { return strings.Repeat("n", n) }

// itemCase is an item, and the errors that are told of it in a text and in a data.
type itemCase struct {
	x      api.Item
	inText api.Errno
	inData api.Errno
}

// itemCases has each kind, right, at its ends, and not right. The label a is there.
func itemCases() []itemCase {
	const ok, arg, ins = api.OK, api.ErrArg, api.ErrInstr
	return []itemCase{
		{label("b"), ok, ok}, {label(long(128)), ok, ok}, {label("\x00 \xff"), ok, ok},
		{label(""), arg, arg}, {label(long(129)), arg, arg},
		{nop, ok, ins}, {instr(api.Instr{Op: api.OpEbreak}), ok, ins},
		{instr(api.Instr{}), ins, ins}, {instr(api.Instr{Op: 66}), ins, ins}, {instr(api.Instr{Op: api.OpAddi, Imm: 2048}), ins, ins},
		{instr(api.Instr{Op: api.OpAdd, Imm: 1}), ins, ins}, {api.Item{Kind: api.ItInstr, Name: "a", I: api.Instr{Op: api.OpAddi}}, ins, ins},
		{li(0, 0), ok, arg}, {li(31, math.MinInt64), ok, arg}, {li(1, math.MaxInt64), ok, arg},
		{li(-1, 0), arg, arg}, {li(32, 0), arg, arg}, {li(math.MinInt, 0), arg, arg},
		{la(1, "a"), ok, arg}, {la(31, "a"), ok, arg},
		{la(0, "a"), arg, arg}, {la(32, "a"), arg, arg}, {la(-1, "a"), arg, arg}, {la(1, ""), arg, arg}, {la(1, long(129)), arg, arg},
		{jump("a"), ok, arg}, {jump(""), arg, arg}, {jump(long(129)), arg, arg},
		{call(1, "a"), ok, arg}, {call(31, "a"), ok, arg},
		{call(0, "a"), arg, arg}, {call(32, "a"), arg, arg}, {call(-1, "a"), arg, arg}, {call(1, ""), arg, arg}, {call(1, long(129)), arg, arg},
		{branch(api.OpBeq, 0, 0, "a"), ok, arg}, {branch(api.OpBgeu, 31, 31, "a"), ok, arg}, {branch(api.OpBlt, 31, 0, "a"), ok, arg},
		{branch(api.OpJalr, 0, 0, "a"), arg, arg}, {branch(api.OpLb, 0, 0, "a"), arg, arg}, {branch(0, 0, 0, "a"), arg, arg}, {branch(-5, 0, 0, "a"), arg, arg},
		{branch(api.OpBeq, -1, 0, "a"), arg, arg}, {branch(api.OpBeq, 32, 0, "a"), arg, arg}, {branch(api.OpBeq, 0, -1, "a"), arg, arg}, {branch(api.OpBeq, 0, 32, "a"), arg, arg},
		{branch(api.OpBeq, 0, 0, ""), arg, arg}, {branch(api.OpBeq, 0, 0, long(129)), arg, arg},
		{word(0), ok, ok}, {word(math.MinInt64), ok, ok}, {word(math.MaxInt64), ok, ok},
		{space(0), ok, ok}, {space(4), ok, ok}, {space(1 << 20), ok, ok}, {space(1<<20 - 4), ok, ok},
		{space(1), arg, ok}, {space(2), arg, ok}, {space(1<<20 - 1), arg, ok},
		{space(-1), arg, arg}, {space(-4), arg, arg}, {space(1<<20 + 1), arg, arg}, {space(1<<20 + 4), arg, arg}, {space(math.MinInt64), arg, arg}, {space(math.MaxInt64), arg, arg},
		{api.Item{}, arg, arg}, {api.Item{Kind: 10}, arg, arg}, {api.Item{Kind: -1}, arg, arg}, {api.Item{Kind: 1<<32 + 1, Name: "b"}, arg, arg}, {api.Item{Kind: math.MinInt}, arg, arg}, {api.Item{Kind: math.MaxInt}, arg, arg},
	}
}

// 5.1: each kind of item in a text and in a data.
func TestItems(t *testing.T) {
	for _, c := range itemCases() {
		place := func(e api.Errno, k int) int {
			if e == api.OK {
				return 0
			}
			return k
		}
		text := []api.Item{nop, label("a"), c.x, space(-1)}
		if c.inText == api.OK {
			text = text[:3]
		}
		wantError(t, "in a text", text, []api.Item{word(1)}, 0, 0, c.inText, place(c.inText, 2))
		data := []api.Item{word(1), label("a"), c.x, space(-1)}
		if c.inData == api.OK {
			data = data[:3]
		}
		wantError(t, "in a data", []api.Item{nop, jump("a")}, data, 0, 0, c.inData, place(c.inData, 4))
	}
}

// 5.1: fields that a kind does not name are 0 or empty.
func TestFieldsThatAreNotNamed(t *testing.T) {
	kinds := []struct {
		x     api.Item
		named string
	}{
		{label("b"), "Name"}, {li(1, 2), "Rd Imm"}, {la(1, "a"), "Rd Name"}, {jump("a"), "Name"}, {call(1, "a"), "Rd Name"},
		{branch(api.OpBeq, 1, 2, "a"), "Op Rs1 Rs2 Name"}, {word(2), "Imm"}, {space(8), "Imm"},
	}
	for _, c := range kinds {
		wantError(t, c.named, []api.Item{label("a"), c.x}, nil, 0, 0, api.OK, 0)
		for _, field := range []string{"Op", "Rd", "Rs1", "Rs2", "Imm", "Name"} {
			if strings.Contains(" "+c.named+" ", " "+field+" ") {
				continue
			}
			for _, n := range []int{1, -1, 4, api.OpBeq} {
				x := c.x
				switch field {
				case "Op":
					x.I.Op = n
				case "Rd":
					x.I.Rd = n
				case "Rs1":
					x.I.Rs1 = n
				case "Rs2":
					x.I.Rs2 = n
				case "Imm":
					x.I.Imm = int64(n)
				case "Name":
					x.Name = "a"
				}
				wantError(t, field, []api.Item{label("a"), x}, nil, 0, 0, api.ErrArg, 1)
				if standsRight(x, false) {
					wantError(t, field, nil, []api.Item{label("a"), x}, 0, 0, api.ErrArg, 1)
				}
			}
		}
	}
}

// 5.1: addresses at their ends and beyond.
func TestBeginnings(t *testing.T) {
	l := []api.Item{jump("a"), label("a"), word(1)}
	for _, c := range []struct {
		at, dataAt uint64
		e          api.Errno
	}{
		{0, 0, api.OK}, {4, 8, api.OK}, {12, 24, api.OK}, {1 << 40, 1 << 40, api.OK}, {1<<40 - 4, 1<<40 - 8, api.OK}, {0, 1 << 40, api.OK},
		{1, 0, api.ErrArg}, {2, 0, api.ErrArg}, {3, 0, api.ErrArg}, {0, 1, api.ErrArg}, {0, 2, api.ErrArg}, {0, 4, api.ErrArg}, {0, 12, api.ErrArg},
		{1<<40 + 4, 0, api.ErrArg}, {0, 1<<40 + 8, api.ErrArg}, {1 << 63, 0, api.ErrArg}, {0, 1 << 63, api.ErrArg}, {math.MaxUint64 - 3, math.MaxUint64 - 7, api.ErrArg},
	} {
		wantError(t, "at", l, []api.Item{word(2)}, c.at, c.dataAt, c.e, 0)
	}
}

// 5.1: errors come in their order, with the item's place.
func TestErrorsInOrder(t *testing.T) {
	wrongOne, wrongInstr := space(-1), instr(api.Instr{})
	many := make([]api.Item, api.MaxAsm+1)
	farData := []api.Item{label("far")}
	for _, c := range []struct {
		what       string
		text, data []api.Item
		at, dataAt uint64
		e          api.Errno
		place      int
	}{
		{"at ahead of too many", many, nil, 2, 0, api.ErrArg, 0},
		{"dataAt ahead of too many", many, nil, 0, 4, api.ErrArg, 0},
		{"at ahead of an item", []api.Item{nop, wrongInstr}, nil, 2, 0, api.ErrArg, 0},
		{"too many in the text, ahead of an item", many, nil, 0, 0, api.ErrLong, 0},
		{"too many in the data", nil, many, 0, 0, api.ErrLong, 0},
		{"too many in both", many[:api.MaxAsm/2], many[:api.MaxAsm/2+1], 0, 0, api.ErrLong, 0},
		{"far too many in both", many, many, 0, 0, api.ErrLong, 0},
		{"not too many, so an item", many[:api.MaxAsm], nil, 0, 0, api.ErrArg, 0},
		{"not too many in both, so an item", many[:api.MaxAsm/2], many[:api.MaxAsm/2], 0, 0, api.ErrArg, 0},
		{"the first that is wrong", []api.Item{nop, wrongInstr, wrongOne}, nil, 0, 0, api.ErrInstr, 1},
		{"the first that is wrong", []api.Item{nop, wrongOne, wrongInstr}, nil, 0, 0, api.ErrArg, 1},
		{"the text ahead of the data", []api.Item{nop, nop, wrongInstr}, []api.Item{wrongOne}, 0, 0, api.ErrInstr, 2},
		{"in the data", []api.Item{nop, nop}, []api.Item{word(1), wrongOne}, 0, 0, api.ErrArg, 3},
		{"twice ahead of a wrong one", []api.Item{label("a"), label("a"), wrongOne}, nil, 0, 0, api.ErrTwice, 1},
		{"a wrong one ahead of twice", []api.Item{label("a"), wrongOne, label("a")}, nil, 0, 0, api.ErrArg, 1},
		{"twice in the data", nil, []api.Item{label("a"), word(1), label("a")}, 0, 0, api.ErrTwice, 2},
		{"twice, in the text and in the data", []api.Item{label("a"), nop}, []api.Item{label("b"), label("a")}, 0, 0, api.ErrTwice, 3},
		{"twice in the text ahead of a wrong one in the data", []api.Item{label("a"), label("a")}, []api.Item{wrongOne}, 0, 0, api.ErrTwice, 1},
		{"a wrong one in the data ahead of no label", []api.Item{jump("x")}, []api.Item{wrongOne}, 0, 0, api.ErrArg, 1},
		{"twice in the data ahead of no label", []api.Item{jump("x")}, []api.Item{label("a"), label("a")}, 0, 0, api.ErrTwice, 2},
		{"no label, of a jump", []api.Item{label("a"), jump("a"), jump("b"), call(1, "c")}, nil, 0, 0, api.ErrLabel, 2},
		{"no label, of a call", []api.Item{call(1, "A"), label("a")}, nil, 0, 0, api.ErrLabel, 0},
		{"no label, of an address", []api.Item{label("a"), la(1, "aa")}, nil, 0, 0, api.ErrLabel, 1},
		{"no label, of a branch", []api.Item{label("aa"), branch(api.OpBeq, 0, 0, "a")}, nil, 0, 0, api.ErrLabel, 1},
		{"no label ahead of too far", []api.Item{la(1, "far"), jump("x")}, farData, 0, 1 << 40, api.ErrLabel, 1},
		{"too far", []api.Item{nop, la(1, "far"), jump("far")}, farData, 0, 1 << 40, api.ErrFar, 1},
		{"too far, of a jump", []api.Item{nop, nop, jump("far"), la(1, "far")}, farData, 0, 1 << 40, api.ErrFar, 2},
		{"too far, of a call", []api.Item{call(1, "far"), jump("far")}, farData, 1 << 40, 0, api.ErrFar, 0},
		{"too far, of a branch", []api.Item{nop, branch(api.OpBne, 1, 2, "far")}, farData, 0, 1 << 32, api.ErrFar, 1},
	} {
		wantError(t, c.what, c.text, c.data, c.at, c.dataAt, c.e, c.place)
	}
}

// 5.1: nothing at all, and as many items as there may be.
func TestNoneAndMost(t *testing.T) {
	for _, l := range [][]api.Item{nil, {}} {
		c, sizes := made(t, l, l, 0, 0)
		if len(c.Text)+len(c.Data)+len(c.Labels)+len(sizes) != 0 {
			t.Error(c, sizes)
		}
	}
	text := slices.Repeat([]api.Item{nop}, api.MaxAsm-3)
	text[0] = jump("end")
	text = append(text, label("end"))
	c, sizes := made(t, text, []api.Item{word(7), label("d")}, 0, 0)
	if len(c.Text) != 4*(api.MaxAsm-3)+4 || sizes[0] != 8 || len(c.Data) != 8 {
		t.Error(len(c.Text), sizes[0], c.Data)
	}
}

// 5.1: bytes of each kind, by hand, and the labels in their order.
func TestBytes(t *testing.T) {
	text := []api.Item{
		label("start"),
		instr(api.Instr{Op: api.OpAddi, Rd: 1, Rs1: 2, Imm: -3}), // 4096
		li(5, 2048),                                // 4100
		la(7, "data"),                              // 4108: 8195 is 4087 further
		label("here"),                              // 4116
		jump("here"),                               // 4116
		call(1, "start"),                           // 4120
		branch(api.OpBlt, 3, 4, "end"),             // 4124
		word(-2),                                   // 4128
		space(4), space(0), label("end"), space(8)} // 4136, 4140
	data := []api.Item{label("first"), space(3), label("data"), word(0x0807060504030201), label("last")}
	c, sizes := made(t, text, data, 4096, 8192)
	want := []byte{
		0x93, 0x00, 0xd1, 0xff,
		0xb7, 0x12, 0x00, 0x00, 0x9b, 0x82, 0x02, 0x80, // lui x5,1; addiw x5,x5,-2048
		0x97, 0x13, 0x00, 0x00, 0x93, 0x83, 0x73, 0xff, // auipc x7,1; addi x7,x7,-9
		0x6f, 0x00, 0x00, 0x00, // jal x0,0
		0xef, 0xf0, 0x9f, 0xfe, // jal x1,-24
		0x63, 0xc8, 0x41, 0x00, // blt x3,x4,16
		0xfe, 0xff, 0xff, 0xff, 0xff, 0xff, 0xff, 0xff,
		0, 0, 0, 0, 0, 0, 0, 0, 0, 0, 0, 0,
	}
	if !bytes.Equal(c.Text, want) {
		t.Errorf("% x\n% x", c.Text, want)
	}
	if !bytes.Equal(c.Data, []byte{0, 0, 0, 1, 2, 3, 4, 5, 6, 7, 8}) {
		t.Errorf("% x", c.Data)
	}
	labels := []api.Label{{Name: "start", Addr: 4096}, {Name: "here", Addr: 4116}, {Name: "end", Addr: 4140}, {Name: "first", Addr: 8192}, {Name: "data", Addr: 8195}, {Name: "last", Addr: 8203}}
	if !slices.Equal(c.Labels, labels) {
		t.Error(c.Labels)
	}
	if !slices.Equal(sizes, []int{0, 4, 8, 8, 0, 4, 4, 4, 8, 4, 0, 0, 8}) {
		t.Error(sizes)
	}
}

// 5.3: the first label of a name, of any code.
func TestFind(t *testing.T) {
	c := api.Code{Labels: []api.Label{{Name: "a", Addr: 4}, {Name: "b", Addr: 8}, {Name: "a", Addr: 12}, {Name: "", Addr: 16}, {Name: "z"}}}
	for _, x := range []struct {
		name string
		at   uint64
		ok   bool
	}{{"a", 4, true}, {"b", 8, true}, {"", 16, true}, {"z", 0, true}, {"c", 0, false}, {"A", 0, false}, {"ab", 0, false}} {
		if at, ok := Find(c, x.name); at != x.at || ok != x.ok {
			t.Errorf("Find(%q): %d, %v", x.name, at, ok)
		}
	}
	if at, ok := Find(api.Code{Text: []byte("a")}, "a"); at != 0 || ok {
		t.Error(at, ok)
	}
}

// spare is a list with room behind it that holds other items.
func spare(l []api.Item) []api.Item {
	return append(slices.Clone(l), word(99), word(98))[:len(l)]
}

// R3, R6: nothing that is handed in is changed, nor shared with an answer, and the same is told again.
func TestNothingIsShared(t *testing.T) {
	text := spare([]api.Item{jump("b"), label("a"), branch(api.OpBeq, 1, 2, "b"), space(4096), label("b"), li(5, 1<<40)})
	data := spare([]api.Item{label("c"), word(5), space(9)})
	textWas, dataWas := slices.Clone(text[:len(text)+2]), slices.Clone(data[:len(data)+2])
	c, sizes := made(t, text, data, 4096, 65536)
	d, again := made(t, text, data, 4096, 65536)
	if !reflect.DeepEqual(c, d) || !slices.Equal(sizes, again) {
		t.Error("not the same")
	}
	for _, l := range [][]byte{c.Text[:cap(c.Text)], c.Data[:cap(c.Data)]} {
		for k := range l {
			l[k] ^= 0xff
		}
	}
	for k := range c.Labels[:cap(c.Labels)] {
		c.Labels[:cap(c.Labels)][k].Name = "?"
	}
	for k := range sizes[:cap(sizes)] {
		sizes[:cap(sizes)][k]++
	}
	e, third := made(t, text, data, 4096, 65536)
	if !reflect.DeepEqual(e, d) || !slices.Equal(third, again) {
		t.Error("an answer is shared")
	}
	if !slices.Equal(text[:len(text)+2], textWas) || !slices.Equal(data[:len(data)+2], dataWas) {
		t.Error("an argument was changed")
	}
}

// anyItem is an item of any fields, most of them near to right.
func anyItem(r *rand.Rand) api.Item {
	numbers := []int64{0, 0, 0, 0, 1, 4, 5, 8, 31, 32, -1, 2048, 1 << 20, math.MinInt64, math.MaxInt64}
	n := func() int64 { return numbers[r.Intn(len(numbers))] }
	names := []string{"", "a", "b", "c", long(128), long(129)}
	return api.Item{Kind: r.Intn(12) - 1, Name: names[r.Intn(len(names))], I: api.Instr{Op: int(n()), Rd: int(n()), Rs1: int(n()), Rs2: int(n()), Imm: n()}}
}

// P1, R4: whatever is handed in, both calls end, tell the same error of the same place, and nothing beside it.
func TestAnyItems(t *testing.T) {
	r := rand.New(rand.NewSource(1))
	right := itemCases()
	for range 20000 {
		lists := [2][]api.Item{}
		for k := range lists {
			for range r.Intn(6) {
				x := right[r.Intn(len(right))].x
				if r.Intn(8) == 0 {
					x = anyItem(r)
				}
				lists[k] = append(lists[k], x)
			}
		}
		at, dataAt := uint64(r.Intn(10))*4, uint64(r.Intn(10))*8
		_, e, k := Assemble(lists[0], lists[1], at, dataAt)
		wantError(t, "any", lists[0], lists[1], at, dataAt, e, k)
		if e == api.OK && k != 0 || k < 0 || k > 0 && k >= len(lists[0])+len(lists[1]) {
			t.Fatal(e, k)
		}
	}
}
