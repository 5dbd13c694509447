package asm

import (
	"math/rand"
	"slices"
	"strconv"
	"testing"

	"patina/api"
	"patina/rv"
)

// model tells sizes as the chapter does: round by round, all addresses anew in each.
type model struct {
	text, data []api.Item
	at, dataAt uint64
	sizes      []int
}

func modelOf(text, data []api.Item, at, dataAt uint64) *model {
	m := &model{text: text, data: data, at: at, dataAt: dataAt}
	for _, x := range text {
		m.sizes = append(m.sizes, fixedSize(x))
	}
	return m
}

// fixedSize is what an item takes, if it has one size, else the least.
func fixedSize(x api.Item) int {
	switch x.Kind {
	case api.ItLabel:
		return 0
	case api.ItLi:
		l, _ := Li(x.I.Rd, x.I.Imm)
		return 4 * len(l)
	case api.ItLa, api.ItWord:
		return 8
	case api.ItSpace:
		return int(x.I.Imm)
	}
	return 4
}

// places are the addresses of the text's items and of all labels.
func (m *model) places() ([]int64, map[string]int64) {
	var l []int64
	labels := map[string]int64{}
	at := int64(m.at)
	for k, x := range m.text {
		l = append(l, at)
		if x.Kind == api.ItLabel {
			labels[x.Name] = at
		}
		at += int64(m.sizes[k])
	}
	at = int64(m.dataAt)
	for _, x := range m.data {
		if x.Kind == api.ItLabel {
			labels[x.Name] = at
		}
		at += int64(fixedSize(x))
	}
	return l, labels
}

// reach tells whether an item at a place reaches an address with its size.
func (m *model) reach(k int, at, to int64) bool {
	auipc := func(from int64) bool {
		h := (to - from + 2048) >> 12
		return h >= -524288 && h <= 524287
	}
	jal := func(from int64) bool { return to-from >= -1048576 && to-from <= 1048574 }
	kind, size := m.text[k].Kind, m.sizes[k]
	switch {
	case kind == api.ItLa:
		return auipc(at)
	case kind != api.ItJump && kind != api.ItCall && kind != api.ItBranch:
		return true
	case to%2 != 0:
		return false
	case kind == api.ItBranch && size == 4:
		return to-at >= -4096 && to-at <= 4094
	case kind == api.ItBranch && size == 8:
		return jal(at + 4)
	case kind == api.ItBranch:
		return auipc(at + 4)
	case size == 4:
		return jal(at)
	}
	return auipc(at)
}

// unreached are the items that do not reach.
func (m *model) unreached() []int {
	var l []int
	places, labels := m.places()
	for k, x := range m.text {
		if !m.reach(k, places[k], labels[x.Name]) {
			l = append(l, k)
		}
	}
	return l
}

// mostSize is the greatest size of an item.
func mostSize(x api.Item) int {
	switch x.Kind {
	case api.ItBranch:
		return 12
	case api.ItJump, api.ItCall:
		return 8
	}
	return fixedSize(x)
}

// told are the sizes, or the first item that is too far.
func (m *model) told() ([]int, api.Errno, int) {
	for {
		l := m.unreached()
		grown := false
		for _, k := range l {
			if m.sizes[k] < mostSize(m.text[k]) {
				m.sizes[k] += 4
				grown = true
			}
		}
		if len(l) == 0 {
			return m.sizes, api.OK, 0
		}
		if !grown {
			return nil, api.ErrFar, l[0]
		}
	}
}

func wantModel(t *testing.T, text, data []api.Item, at, dataAt uint64) ([]int, api.Errno) {
	t.Helper()
	want, e1, k1 := modelOf(text, data, at, dataAt).told()
	l, e, k := Sizes(text, data, at, dataAt)
	if e != e1 || k != k1 || !slices.Equal(l, want) {
		t.Fatalf("Sizes tells %v, %v, %d, not %v, %v, %d: %v, %v at %d, %d", l, e, k, want, e1, k1, text, data, at, dataAt)
	}
	return l, e
}

// turnedAbout are the branches by their numbers, and those that are taken just if they are not.
var turnedAbout = map[int]int{
	api.OpBeq: api.OpBne, api.OpBne: api.OpBeq, api.OpBlt: api.OpBge, api.OpBge: api.OpBlt, api.OpBltu: api.OpBgeu, api.OpBgeu: api.OpBltu,
}

// wantLeads holds the bytes of an item of a text to its size's instructions, and runs them: to its label, or, of a branch that is not taken, behind it.
func wantLeads(t *testing.T, c api.Code, x api.Item, at uint64, text []byte, size int) {
	t.Helper()
	goal, ok := Find(c, x.Name)
	if !ok {
		t.Fatal("no label", x.Name)
	}
	var l []api.Instr
	for k := 0; k < size; k += 4 {
		i, e := rv.Decode(uint32(text[k]) | uint32(text[k+1])<<8 | uint32(text[k+2])<<16 | uint32(text[k+3])<<24)
		if e != api.OK {
			t.Fatal("a word that does not decode", k)
		}
		l = append(l, i)
	}
	ops := func(want ...int) {
		t.Helper()
		for k, op := range want {
			if len(l) != len(want) || l[k].Op != op {
				t.Fatal("instructions", l, want)
			}
		}
	}
	taken := []bool{true}
	if x.Kind == api.ItBranch {
		taken = []bool{true, false}
		switch size {
		case 4:
			ops(x.I.Op)
		case 8:
			ops(turnedAbout[x.I.Op], api.OpJal)
		default:
			ops(turnedAbout[x.I.Op], api.OpAuipc, api.OpJalr)
		}
		if l[0].Rs1 != x.I.Rs1 || l[0].Rs2 != x.I.Rs2 || size > 4 && l[0].Imm != int64(size) {
			t.Fatal(l[0])
		}
	}
	if x.Kind == api.ItLa {
		ops(api.OpAuipc, api.OpAddi)
	}
	for _, is := range taken {
		wantRun(t, x, at, text[:size], goal, is)
	}
}

// wantRun runs an item's instructions.
func wantRun(t *testing.T, x api.Item, at uint64, text []byte, goal uint64, taken bool) {
	t.Helper()
	regs := [32]uint64{}
	for k := 1; k < 32; k++ {
		regs[k] = 1000 + uint64(k)
	}
	if x.Kind == api.ItBranch {
		equal := x.I.Op == api.OpBeq || x.I.Op == api.OpBge || x.I.Op == api.OpBgeu
		regs[x.I.Rs1], regs[x.I.Rs2] = 5, 5
		if equal != taken {
			regs[x.I.Rs1] = 4 // less, and not the same
		}
	}
	m := machine(t, at, text, regs)
	pc, behind := m.State().PC, at+uint64(len(text))
	for pc >= at && pc < behind {
		if m.Run(1) != 1 {
			t.Fatal("a fault", m.State().Fault)
		}
		pc = m.State().PC
		if pc == goal || pc == at {
			break
		}
	}
	c := m.State()
	switch {
	case x.Kind == api.ItLa && (pc != behind || c.Regs[x.I.Rd] != goal):
		t.Fatal("an address", c.Regs[x.I.Rd], goal)
	case x.Kind == api.ItCall && c.Regs[x.I.Rd] != behind:
		t.Fatal("a link", c.Regs[x.I.Rd], behind)
	case x.Kind != api.ItLa && taken && pc != goal:
		t.Fatal("leads to", pc, "not", goal)
	case !taken && pc != behind:
		t.Fatal("not taken, but leads to", pc, "not", behind)
	}
	for k := 1; k < 32; k++ {
		own := (x.Kind == api.ItLa || x.Kind == api.ItCall) && k == x.I.Rd
		far := k == 6 && (x.Kind == api.ItJump && len(text) == 8 || x.Kind == api.ItBranch && len(text) == 12 && taken)
		if !own && !far && c.Regs[k] != regs[k] {
			t.Fatal("another register", k)
		}
	}
}

// wantAllLead holds all items of a text that ask for labels to 5.4.
func wantAllLead(t *testing.T, text, data []api.Item, at, dataAt uint64) []int {
	t.Helper()
	c, sizes := made(t, text, data, at, dataAt)
	place := 0
	for k, x := range text {
		if x.Kind == api.ItLa || mostSize(x) > fixedSize(x) {
			wantLeads(t, c, x, at+uint64(place), c.Text[place:], sizes[k])
		}
		place += sizes[k]
	}
	return sizes
}

// reach is how far the sizes of a kind reach: forward and back, from the item's own place to the label.
var reach = []struct {
	x             api.Item
	size          int
	ahead, behind int64
}{
	{branch(api.OpBlt, 7, 8, "a"), 4, 4094, -4096},
	{branch(api.OpBlt, 7, 8, "a"), 8, 1<<20 - 2 + 4, -1<<20 + 4},
	{branch(api.OpBlt, 7, 8, "a"), 12, 1<<31 - 2049 + 4 - 1, -1<<31 - 2048 + 4},
	{jump("a"), 4, 1<<20 - 2, -1 << 20},
	{jump("a"), 8, 1<<31 - 2049 - 1, -1<<31 - 2048},
	{call(1, "a"), 4, 1<<20 - 2, -1 << 20},
	{call(1, "a"), 8, 1<<31 - 2049 - 1, -1<<31 - 2048},
	{la(9, "a"), 8, 1<<31 - 2049, -1<<31 - 2048},
}

// label at a distance from the text's only item, in a data.
func atDistance(x api.Item, o int64) (text, data []api.Item, at, dataAt uint64) {
	const middle = 1 << 33
	goal := middle + o
	return []api.Item{x}, []api.Item{space(goal % 8), label("a")}, middle, uint64(goal - goal%8)
}

// 5.4, 5.5: each size at the last distance that it reaches, and one step beyond, forward and back, to labels of a data, which stand at any address.
func TestLastDistances(t *testing.T) {
	for _, c := range reach {
		step, next := int64(2), c.size+4
		if c.x.Kind == api.ItLa {
			step = 1
		}
		for _, o := range []int64{c.ahead, c.behind} {
			text, data, at, dataAt := atDistance(c.x, o)
			if l := wantAllLead(t, text, data, at, dataAt); l[0] != c.size {
				t.Error(c.x, o, l)
			}
			beyond := o + step
			if o < 0 {
				beyond = o - step
			}
			text, data, at, dataAt = atDistance(c.x, beyond)
			if c.size == mostSize(c.x) {
				wantError(t, "beyond", text, data, at, dataAt, api.ErrFar, 0)
			} else if l := wantAllLead(t, text, data, at, dataAt); l[0] != next {
				t.Error(c.x, beyond, l)
			}
		}
	}
}

// 5.4, 5.5: the same to labels of the text, which stand at multiples of 4.
func TestLastDistancesInTheText(t *testing.T) {
	for _, c := range []struct {
		x        api.Item
		forward  int64 // the greatest number of bytes between the item and a label behind it
		backward int64 // and one ahead of it
		size     int
	}{
		{branch(api.OpBeq, 7, 8, "a"), 4092 - 4, 4096, 4},
		{branch(api.OpBne, 7, 8, "a"), 1<<20 - 4 + 4 - 8, 1<<20 - 4, 8},
		{jump("a"), 1<<20 - 4 - 4, 1 << 20, 4},
		{call(5, "a"), 1<<20 - 4 - 4, 1 << 20, 4},
	} {
		for beyond := range int64(2) {
			want := c.size + 4*int(beyond)
			forward := together([]api.Item{nop, c.x}, spaces(c.forward+4*beyond), []api.Item{label("a")})
			if l := wantAllLead(t, forward, nil, 4096, 0); l[1] != want {
				t.Error(c.x, "forward", beyond, l)
			}
			backward := together([]api.Item{nop, label("a")}, spaces(c.backward+4*beyond), []api.Item{c.x})
			if l := wantAllLead(t, backward, nil, 4096, 0); l[len(l)-1] != want {
				t.Error(c.x, "backward", beyond, l)
			}
		}
	}
}

// 5.4: all branches in all sizes, taken and not, and a distance of 0.
func TestAllBranches(t *testing.T) {
	for op := range turnedAbout {
		for _, o := range []int64{0, 4, 8, -4, 2, 4096, -5000, 1 << 22, -1 << 22} {
			text, data, at, dataAt := atDistance(branch(op, 30, 31, "a"), o)
			wantAllLead(t, text, data, at, dataAt)
		}
	}
}

// 5.1: a jump, a call or a branch to an address that is not a multiple of 2; one of 2 is reached, and La reaches any.
func TestOddAddresses(t *testing.T) {
	for _, x := range []api.Item{jump("a"), call(1, "a"), branch(api.OpBeq, 4, 3, "a"), branch(api.OpBgeu, 1, 2, "a")} {
		for _, o := range []int64{1, 3, -1, 5001, -5001, 1<<21 + 1, -1<<21 - 1, 7} {
			text, data, at, dataAt := atDistance(x, o)
			wantError(t, "odd", text, data, at, dataAt, api.ErrFar, 0)
		}
		for _, o := range []int64{2, -2, 6, 5002, 1<<21 + 2} {
			text, data, at, dataAt := atDistance(x, o)
			wantAllLead(t, text, data, at, dataAt)
		}
	}
	for _, o := range []int64{1, -1, 2, 3, 2047, 2048, 2049, -2048, -2049, 1<<30 + 1} {
		text, data, at, dataAt := atDistance(la(3, "a"), o)
		wantAllLead(t, text, data, at, dataAt)
	}
}

// 5.1: of several that are too far, the first is told, whichever is found to be so first.
func TestFirstThatIsTooFar(t *testing.T) {
	data := []api.Item{space(1), label("odd"), space(7), label("even")}
	wantError(t, "odd ahead of far", []api.Item{jump("odd"), la(1, "even")}, data, 0, 1<<33, api.ErrFar, 0)
	wantError(t, "far ahead of odd", []api.Item{nop, la(1, "even"), jump("odd")}, data, 0, 1<<33, api.ErrFar, 1)
	wantError(t, "odd alone", []api.Item{la(1, "odd"), nop, branch(api.OpBeq, 0, 0, "odd")}, data, 0, 1<<20, api.ErrFar, 2)
}

// What reaches with no size takes its greatest one while others are looked at: here it lies between an item and a label that are just near enough, or just not.
func TestTooFarTakesItsGreatestSize(t *testing.T) {
	odd := []api.Item{space(1), label("odd")}
	const most = 1<<31 - 2052 // the greatest distance of La between multiples of 4
	for _, x := range []api.Item{jump("odd"), call(1, "odd"), branch(api.OpBeq, 1, 2, "odd")} {
		between := int64(most - 8 - mostSize(x))
		for beyond := range int64(2) {
			text := together([]api.Item{la(1, "end"), x}, spaces(between+4*beyond), []api.Item{label("end")})
			wantModel(t, text, odd, 0, 0)
			if _, e, k := Sizes(text, odd, 0, 0); e != api.ErrFar || k != int(1-beyond) {
				t.Error(x, beyond, e, k)
			}
		}
	}
}

// The data's labels stand where they do, however the text has grown; the text's go on behind what has.
func TestLabelsOfAGrownText(t *testing.T) {
	text := together([]api.Item{branch(api.OpBeq, 1, 2, "end"), label("next"), jump("data")}, spaces(4096), []api.Item{label("end")})
	c, _ := made(t, text, []api.Item{label("data"), space(5), label("last")}, 4096, 8192)
	want := []api.Label{{Name: "next", Addr: 4104}, {Name: "end", Addr: 4108 + 4096}, {Name: "data", Addr: 8192}, {Name: "last", Addr: 8197}}
	if !slices.Equal(c.Labels, want) {
		t.Error(c.Labels)
	}
	wantAllLead(t, text, []api.Item{label("data")}, 4096, 8192)
}

// 5.2: sizes are told of a text whose bytes would be too many, and what is too far in it is found.
func TestGreatText(t *testing.T) {
	great := spaces(1 << 32)
	l, e, k := Sizes(great, nil, 1<<40, 0)
	if e != api.OK || k != 0 || l[1] != 1<<20 {
		t.Error(e, k)
	}
	text := together([]api.Item{la(1, "a"), jump("a")}, great, []api.Item{label("a")})
	wantError(t, "over all", text, nil, 0, 0, api.ErrFar, 0)
	text = together([]api.Item{nop, jump("a")}, spaces(1<<31-2048-8-4), []api.Item{label("a")})
	if l, e, _ := Sizes(text, nil, 0, 0); e != api.OK || l[1] != 8 {
		t.Error(e)
	}
	text[0] = branch(api.OpBeq, 0, 0, "a")
	if l, e, _ := Sizes(text, nil, 0, 0); e != api.ErrFar || len(l) != 0 {
		t.Error(e)
	}
	// The branch of 12 is farther from its label than the jump; it alone is too far.
	if _, e, k := Sizes(text, nil, 0, 0); e != api.ErrFar || k != 0 {
		t.Error(e, k)
	}
}

// 5.4, 5.5: the chapter's second example.
func TestBranchOverMany(t *testing.T) {
	for n, want := range map[int]int{1022: 4, 1023: 8, 1024: 8} {
		text := together([]api.Item{branch(api.OpBeq, 1, 2, "a")}, slices.Repeat([]api.Item{nop}, n), []api.Item{label("a")})
		if l := wantAllLead(t, text, nil, 0, 0); l[0] != want {
			t.Error(n, l[0])
		}
	}
}

// A branch that gets longer makes others longer: forward, back, and both by turns.
func TestOneMakesOthersLonger(t *testing.T) {
	forward := together([]api.Item{branch(api.OpBeq, 1, 2, "a"), branch(api.OpBeq, 1, 2, "b")}, spaces(4084), []api.Item{label("a"), space(4), label("b"), nop, label("c")})
	if l, _ := wantModel(t, forward, nil, 0, 0); l[0] != 4 || l[1] != 4 {
		t.Error(l)
	}
	forward[len(forward)-1], forward[len(forward)-3] = label("b"), label("c")
	if l, _ := wantModel(t, forward, nil, 0, 0); l[0] != 8 || l[1] != 8 {
		t.Error(l)
	}
	jumps := together([]api.Item{jump("a")}, spaces(1<<20-12), []api.Item{branch(api.OpBeq, 1, 2, "b"), label("a")}, spaces(4092), []api.Item{label("b")})
	if l := wantAllLead(t, jumps, nil, 4096, 0); l[0] != 8 || l[len(l)-4] != 8 {
		t.Error(l)
	}
	backward := together([]api.Item{label("a"), branch(api.OpBeq, 1, 2, "b")}, spaces(4092), []api.Item{call(1, "a"), branch(api.OpBne, 1, 2, "a"), label("b")})
	if l, _ := wantModel(t, backward, nil, 0, 0); l[1] != 8 || l[len(l)-2] != 8 {
		t.Error(l)
	}
}

// chain are branches one behind the other, each over so many of those behind it; the last one is too short by itself.
func chain(n, over int) []api.Item {
	var l []api.Item
	for k := range n {
		l = append(l, label("l"+strconv.Itoa(k)), branch(api.OpBeq, 1, 2, "l"+strconv.Itoa(k+over+1)))
	}
	for k := n; k < n+over+1; k++ {
		l = append(l, label("l"+strconv.Itoa(k)), space(8))
	}
	return append(l, label("l"+strconv.Itoa(n+over+1)))
}

// reversed is a text from the back: branches forward become branches back.
func reversed(l []api.Item) []api.Item {
	l = slices.Clone(l)
	slices.Reverse(l)
	return l
}

func wantBranches(t *testing.T, text []api.Item, sizes []int, want int) {
	t.Helper()
	if len(sizes) != len(text) {
		t.Fatal("no sizes")
	}
	for k, x := range text {
		if x.Kind == api.ItBranch && sizes[k] != want {
			t.Fatal(k, sizes[k], want)
		}
	}
}

// 5.5: chains in which each branch gets longer just because all those ahead of it in the chain did: the rounds are as many as there are branches, and yet it ends soon.
func TestChains(t *testing.T) {
	for _, n := range []int{100, 1500} {
		for _, text := range [][]api.Item{chain(n, 512), reversed(chain(n, 513))} {
			l, _ := wantModel(t, text, nil, 0, 0)
			wantBranches(t, text, l, 8)
		}
	}
	const many = 1 << 17
	for over, want := range map[int]int{511: 4, 512: 8} {
		text := chain(many, over)
		l, _, _ := Sizes(text, nil, 0, 0)
		wantBranches(t, text, l, want)
		text = reversed(chain(many, over+1))
		l, _, _ = Sizes(text, nil, 0, 0)
		wantBranches(t, text, l, want)
	}
}

// A label of a data comes nearer as the text grows: what was too short at first has grown all the same, as the rounds have it, and what is too far at first is not so in the end.
func TestLabelsThatComeNearer(t *testing.T) {
	grow := []api.Item{branch(api.OpBeq, 1, 2, "end"), branch(api.OpBeq, 1, 2, "end")}
	text := together(grow, []api.Item{branch(api.OpBne, 1, 2, "d")}, spaces(5000), []api.Item{label("end")})
	data := []api.Item{label("d")}
	if l, _ := wantModel(t, text, data, 0, 4104); l[0] != 8 || l[2] != 8 {
		t.Error(l)
	}
	if l, _ := wantModel(t, text, data, 0, 4096); l[2] != 4 {
		t.Error(l)
	}
	text = together(grow, []api.Item{la(1, "d")}, spaces(5000), []api.Item{label("end")})
	const most = 1<<31 - 2049
	data = []api.Item{space(7), label("d")}
	if _, e := wantModel(t, text, data, 0, most+16-7); e != api.OK {
		t.Error(e)
	}
	if _, e := wantModel(t, text, data, 0, most+24-7); e != api.ErrFar {
		t.Error(e)
	}
}

// someText are items at random, with spaces by which jumps and branches come near to their last distances.
func someText(r *rand.Rand, asking int, names []string) []api.Item {
	name := func() string { return names[r.Intn(len(names))] }
	near := []int64{4, 8, 4080, 4084, 4088, 4092, 4096, 4076, 2040, 1<<20 - 8, 1<<20 - 12, 1<<20 - 4, 1<<20 - 4096, 1 << 20, 1<<20 - 16}
	var l []api.Item
	for range asking {
		switch r.Intn(5) {
		case 0:
			l = append(l, jump(name()))
		case 1:
			l = append(l, call(1+r.Intn(31), name()))
		default:
			l = append(l, branch(api.OpBeq+r.Intn(6), 1+r.Intn(15), 16+r.Intn(16), name()))
		}
	}
	for range r.Intn(4) {
		x := space(near[r.Intn(len(near))])
		if r.Intn(5) == 0 {
			x = []api.Item{nop, word(3), li(4, 1<<40+1), la(5, name())}[r.Intn(4)]
		}
		l = slices.Insert(l, r.Intn(len(l)+1), x)
	}
	return l
}

// labelled is a text with labels put in at random.
func labelled(r *rand.Rand, l []api.Item, names []string) []api.Item {
	for _, n := range names {
		l = slices.Insert(l, r.Intn(len(l)+1), label(n))
	}
	return l
}

// 5.1, 5.2: sizes are those of the rounds, at random, with labels in the text and in the data, wherever that stands.
func TestSizesByRounds(t *testing.T) {
	r := rand.New(rand.NewSource(3))
	names := []string{"a", "b", "c", "d"}
	grown, far := 0, 0
	for range 20000 {
		text := labelled(r, someText(r, 1+r.Intn(12), names), names[:2])
		data := []api.Item{space([]int64{0, 2, 4, 6, 0, 2, 4, 1}[r.Intn(8)]), label("c"), space(8 * r.Int63n(520)), label("d")}
		at := uint64(4 * r.Intn(4))
		dataAt := []uint64{0, 4096, 4104, 4112, 8192, 1<<20 - 8, 1 << 20, 1<<20 + 8, 1<<20 + 4096, 1<<20 + 4104, 1 << 21, 1<<31 - 2048, 1<<31 - 2040}[r.Intn(13)]
		if r.Intn(4) == 0 {
			at = 1<<20 - 16 + uint64(4*r.Intn(8))
		}
		l, e := wantModel(t, text, data, at, dataAt)
		if e != api.OK {
			far++
		}
		for k, size := range l {
			if size > fixedSize(text[k]) {
				grown++
			}
		}
	}
	if grown < 10000 || far < 1000 || far > 15000 {
		t.Error("poor samples", grown, far)
	}
}

// 5.4: at random, all that asks for labels leads there.
func TestAllLead(t *testing.T) {
	r := rand.New(rand.NewSource(4))
	names := []string{"a", "b", "c"}
	for range 60 {
		text := labelled(r, someText(r, 1+r.Intn(8), names), names[:2])
		data := []api.Item{space(2 * r.Int63n(100)), label("c"), word(1)}
		wantAllLead(t, text, data, 1<<16, uint64(8*r.Intn(1<<16)))
	}
}

// lesser goes over all sizes that are nowhere greater than said, and somewhere less.
func lesser(m *model, said []int, k int, less bool, look func()) {
	if k == len(said) {
		if less {
			look()
		}
		return
	}
	for size := fixedSize(m.text[k]); size <= said[k]; size += 4 {
		m.sizes[k] = size
		lesser(m, said, k+1, less || size < said[k], look)
	}
}

// 5.5: with sizes of which one is less than said, and none greater, something does not reach.
func TestLeastSizes(t *testing.T) {
	r := rand.New(rand.NewSource(5))
	names := []string{"a", "b", "c"}
	looked := 0
	for range 3000 {
		text := labelled(r, someText(r, 1+r.Intn(6), names), names)
		said, e, _ := Sizes(text, nil, 0, 0)
		if e != api.OK {
			t.Fatal(e)
		}
		m := modelOf(text, nil, 0, 0)
		m.sizes = slices.Clone(said)
		if l := m.unreached(); len(l) > 0 {
			t.Fatal("not reached", text, said, l)
		}
		lesser(m, said, 0, false, func() {
			looked++
			if len(m.unreached()) == 0 {
				t.Fatal("not the least", text, said, m.sizes)
			}
		})
	}
	if looked < 3000 {
		t.Error("poor samples", looked)
	}
}
