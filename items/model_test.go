package items

import (
	"math/big"
	"math/rand"
	"slices"
	"strings"
	"testing"

	"patina/api"
)

// span is a part of a source.
type span struct {
	from, to int
}

// typ is a type: what is ahead of its innermost part, from outside, and that.
type typ struct {
	ahead []string // & or &mut or Box
	base  string
	spans []span // of each part, the innermost last
}

// text is the type as items have it.
func (t typ) text() string {
	s := t.base
	for _, a := range slices.Backward(t.ahead) {
		s = map[string]string{"&": "&" + s, "&mut": "&mut " + s, "Box": "Box<" + s + ">"}[a]
	}
	return s
}

// member is a field, a variant, a parameter or a result.
type member struct {
	name string
	t    *typ // nil: none
	mut  bool
	at   span
}

// def is an item.
type def struct {
	word    string // struct, enum or fn
	name    string
	members []member
	result  *typ
	at      span
}

// writer writes a source, and notes where its parts stand.
type writer struct {
	s strings.Builder
}

func (w *writer) put(text string) { w.s.WriteString(text) }

func (w *writer) aType(t *typ) {
	t.spans = make([]span, len(t.ahead)+1)
	for k, a := range t.ahead {
		t.spans[k].from = w.s.Len()
		w.put(map[string]string{"&": "& ", "&mut": "&mut ", "Box": "Box<"}[a])
	}
	last := len(t.ahead)
	t.spans[last].from = w.s.Len()
	w.put(t.base)
	t.spans[last].to = w.s.Len()
	for k := last - 1; k >= 0; k-- {
		if t.ahead[k] == "Box" {
			w.put(">")
		}
		t.spans[k].to = w.s.Len()
	}
}

func (w *writer) item(d *def) {
	d.at.from = w.s.Len()
	open, closing := "{", "}"
	if d.word == "fn" {
		open, closing = "(", ")"
	}
	w.put(d.word + " " + d.name + open)
	for k := range d.members {
		m := &d.members[k]
		m.at.from = w.s.Len()
		if m.mut {
			w.put("mut ")
		}
		w.put(m.name)
		if m.t != nil && d.word == "enum" {
			w.put("(")
			w.aType(m.t)
			w.put(")")
		} else if m.t != nil {
			w.put(": ")
			w.aType(m.t)
		}
		m.at.to = w.s.Len()
		w.put(", ")
	}
	w.put(closing)
	if d.word == "fn" {
		if d.result != nil {
			w.put(" -> ")
			w.aType(d.result)
		}
		w.put(" { }")
	}
	d.at.to = w.s.Len()
	w.put(" ")
}

// wrongThing is one thing that is wrong, with its place in the chapter's order.
type wrongThing struct {
	rank []int
	diag api.Diag
}

// model finds all that is wrong with items, and takes the first by rank.
type model struct {
	defs  []def
	found []wrongThing
}

func (m *model) note(code api.Errno, at span, rank ...int) {
	m.found = append(m.found, wrongThing{rank, api.Diag{Code: code, From: at.from, To: at.to}})
}

func (m *model) names() {
	for k, d := range m.defs {
		same := 0
		for i, e := range m.defs[:k] {
			if e.word == d.word {
				same++
			}
			if e.name == m.defs[k].name && (e.word == "fn") == (d.word == "fn") && i < k {
				m.note(api.ErrDup, d.at, 3, k, 0)
			}
		}
		if same >= api.MaxItems {
			m.note(api.ErrLong, d.at, 2, k)
		}
		if d.word == "fn" && slices.Contains([]string{"print", "read", "panic"}, d.name) {
			m.note(api.ErrDup, d.at, 3, k, 0)
		}
		if n := len(d.members); n > api.MaxFields || n > api.MaxParams && d.word == "fn" {
			m.note(api.ErrLong, d.at, 3, k, 1)
		}
		for i, x := range d.members {
			if slices.IndexFunc(d.members, func(y member) bool { return y.name == x.name }) < i {
				m.note(api.ErrDup, x.at, 3, k, 2+i)
			}
		}
	}
}

func (m *model) find(name string) *def {
	for k := range m.defs {
		if m.defs[k].word != "fn" && m.defs[k].name == name {
			return &m.defs[k]
		}
	}
	return nil
}

func isWord(base string) bool { return base == "i64" || base == "bool" || base == "()" }

func (m *model) types() {
	for k, d := range m.defs {
		var l []*typ
		for _, x := range d.members {
			l = append(l, x.t)
		}
		l = append(l, d.result)
		for i, t := range l {
			if t == nil {
				continue
			}
			if !isWord(t.base) && m.find(t.base) == nil {
				m.note(api.ErrUnknown, t.spans[len(t.ahead)], 4, k, i, 0)
			}
			for a, word := range t.ahead {
				if word != "Box" && (a > 0 || d.word != "fn") {
					m.note(api.ErrInner, t.spans[a], 4, k, i, 1, a)
				}
			}
		}
	}
}

// reach are the names that a struct or enum holds.
func (m *model) reach() map[[2]string]bool {
	holds := map[[2]string]bool{}
	for _, d := range m.defs {
		for _, x := range d.members {
			if d.word != "fn" && x.t != nil && len(x.t.ahead) == 0 && !isWord(x.t.base) {
				holds[[2]string{d.name, x.t.base}] = true
			}
		}
	}
	for more := true; more; {
		more = false
		for a := range holds {
			for _, d := range m.defs {
				b := [2]string{a[1], d.name}
				c := [2]string{a[0], d.name}
				if holds[b] && !holds[c] {
					holds[c], more = true, true
					break
				}
			}
			if more {
				break
			}
		}
	}
	return holds
}

// sizes are how many parts and words a type has, which holds no endless one.
func (m *model) sizes(t *typ, known map[string][2]*big.Int) [2]*big.Int {
	if len(t.ahead) > 0 || t.base == "i64" || t.base == "bool" {
		return [2]*big.Int{big.NewInt(1), big.NewInt(1)}
	}
	if t.base == "()" {
		return [2]*big.Int{big.NewInt(1), big.NewInt(0)}
	}
	if s, ok := known[t.base]; ok {
		return s
	}
	d := m.find(t.base)
	parts, sum, most := big.NewInt(1), big.NewInt(0), big.NewInt(0)
	for _, x := range d.members {
		if x.t == nil {
			continue
		}
		s := m.sizes(x.t, known)
		parts.Add(parts, s[0])
		sum.Add(sum, s[1])
		if s[1].Cmp(most) > 0 {
			most.Set(s[1])
		}
	}
	if d.word == "enum" {
		sum.Add(most, big.NewInt(1))
	}
	known[t.base] = [2]*big.Int{parts, sum}
	return known[t.base]
}

// first is what is wrong first.
func (m *model) first() api.Diag {
	m.names()
	m.types()
	if len(m.found) == 0 {
		holds := m.reach()
		for k, d := range m.defs {
			if d.word != "fn" && holds[[2]string{d.name, d.name}] || d.word == "enum" && len(d.members) == 0 {
				m.note(api.ErrEndless, d.at, 5, k)
			}
		}
	}
	if len(m.found) == 0 {
		known := map[string][2]*big.Int{}
		for k, d := range m.defs {
			if d.word == "fn" {
				continue
			}
			if s := m.sizes(&typ{base: d.name}, known); s[0].Cmp(big.NewInt(MaxParts)) > 0 || s[1].Cmp(big.NewInt(api.MaxWords)) > 0 {
				m.note(api.ErrLong, d.at, 6, k)
			}
		}
	}
	main := slices.IndexFunc(m.defs, func(d def) bool { return d.word == "fn" && d.name == "main" })
	if main < 0 {
		m.note(api.ErrMain, span{}, 7)
	} else if d := m.defs[main]; len(d.members) > 0 || d.result != nil && d.result.text() != "()" {
		m.note(api.ErrMain, d.at, 7)
	}
	if len(m.found) == 0 {
		return api.Diag{}
	}
	return slices.MinFunc(m.found, func(a, b wrongThing) int { return slices.Compare(a.rank, b.rank) }).diag
}

// items are the items, but for Nodes.
func (m *model) items() api.Items {
	var it api.Items
	for _, d := range m.defs {
		var fields []api.Field
		var muts []bool
		for _, x := range d.members {
			f := api.Field{Name: x.name}
			if x.t != nil {
				f.Type = x.t.text()
			}
			fields, muts = append(fields, f), append(muts, x.mut)
		}
		switch d.word {
		case "struct":
			it.Structs = append(it.Structs, api.Struct{Name: d.name, Fields: fields})
		case "enum":
			it.Enums = append(it.Enums, api.Enum{Name: d.name, Variants: fields})
		case "fn":
			f := api.Fn{Name: d.name, Params: fields, Muts: muts, Ret: "()"}
			if d.result != nil {
				f.Ret = d.result.text()
			}
			it.Fns = append(it.Fns, f)
		}
	}
	return it
}

// guesser makes items at random; faults is in how many of so many times something is likely to be wrong.
type guesser struct {
	r    *rand.Rand
	odds int
}

func (g *guesser) rarely() bool { return g.r.Intn(g.odds) == 0 }

func (g *guesser) aType(d *def, names []string) *typ {
	t := &typ{base: []string{"i64", "bool", "()"}[g.r.Intn(3)]}
	if len(names) > 0 && g.r.Intn(2) == 0 {
		t.base = names[g.r.Intn(len(names))]
	}
	if g.rarely() {
		t.base = []string{"Nothing", "main", d.name}[g.r.Intn(3)]
	}
	if d.word == "fn" && g.r.Intn(3) == 0 {
		t.ahead = append(t.ahead, []string{"&", "&mut"}[g.r.Intn(2)])
	}
	for g.r.Intn(3) == 0 {
		t.ahead = append(t.ahead, "Box")
	}
	if g.rarely() {
		t.ahead = slices.Insert(t.ahead, g.r.Intn(len(t.ahead)+1), []string{"&", "&mut"}[g.r.Intn(2)])
	}
	return t
}

func (g *guesser) item(word, name string, names []string, most int) def {
	d := def{word: word, name: name}
	n := g.r.Intn(most + 1)
	if word == "enum" && !g.rarely() {
		n = max(n, 1)
	}
	for k := range n {
		m := member{name: "a" + string(rune('a'+k)), t: g.aType(&d, names), mut: word == "fn" && g.r.Intn(2) == 0}
		if g.rarely() {
			m.name = "aa"
		}
		if word == "enum" && g.r.Intn(3) == 0 {
			m.t = nil
		}
		d.members = append(d.members, m)
	}
	if word == "fn" && g.r.Intn(2) == 0 {
		d.result = g.aType(&d, names)
	}
	return d
}

// defs are items in any order; types name those that are made ahead of them, and seldom any other.
func (g *guesser) defs(types, fns, most int) []def {
	pool := strings.Fields("A B C D E F G H I J K L M N O P Q R S T U V W X Y Z")
	var l []def
	for k := range types {
		name := pool[k]
		if g.rarely() {
			name = pool[g.r.Intn(types)]
		}
		names := pool[:k]
		if g.rarely() {
			names = pool[:types]
		}
		l = append(l, g.item([]string{"struct", "enum"}[g.r.Intn(2)], name, names, most))
	}
	for k := range fns {
		name := "f" + string(rune('a'+k))
		if g.rarely() {
			name = []string{"fa", "main", "print", "read", "panic", "A"}[g.r.Intn(6)]
		}
		l = append(l, g.item("fn", name, pool[:types], min(most, api.MaxParams)))
	}
	if !g.rarely() {
		l = append(l, def{word: "fn", name: "main"})
	}
	g.r.Shuffle(len(l), func(i, k int) { l[i], l[k] = l[k], l[i] })
	return l
}

// withoutNodes are items with Nodes 0, and whether these named the functions of a tree.
func withoutNodes(it api.Items, x api.Tree) (api.Items, bool) {
	named := true
	it.Fns = slices.Clone(it.Fns)
	for k := range it.Fns {
		f := &it.Fns[k]
		named = named && x.Nodes[f.Node].Kind == api.KFn && x.Nodes[f.Node].Name == f.Name
		f.Node = 0
	}
	return it, named
}

// 14.1, 14.5: items that were made at random are told, or what is wrong first with them.
func TestMadeItems(t *testing.T) {
	r := rand.New(rand.NewSource(14))
	codes := map[api.Errno]int{}
	for round := range 20000 {
		g := &guesser{r: r, odds: []int{8, 40, 150, 100000}[round%4]}
		m := &model{defs: g.defs(r.Intn(7), r.Intn(4), []int{3, 3, 3, 5, 18}[r.Intn(5)])}
		if round%10 == 0 {
			m = &model{defs: g.defs(14, 1, 4)} // great types
		}
		w := &writer{}
		for k := range m.defs {
			w.item(&m.defs[k])
		}
		source := w.s.String()
		x := treeOf(t, source)
		it, d := Of(x)
		want := m.first()
		if d != want {
			t.Fatalf("%q tells %v, not %v", source, d, want)
		}
		codes[d.Code]++
		if d.Code != api.OK {
			if !Same(it, api.Items{}) {
				t.Fatalf("%q tells %v beside an error", source, it)
			}
			continue
		}
		if plain, named := withoutNodes(it, x); !named || !Same(plain, m.items()) {
			t.Fatalf("%q tells %v, not %v", source, it, m.items())
		}
		if Check(it) != api.OK {
			t.Fatalf("%q: Check of its items", source)
		}
	}
	for _, e := range []api.Errno{api.OK, api.ErrDup, api.ErrUnknown, api.ErrInner, api.ErrEndless, api.ErrLong, api.ErrMain} {
		if codes[e] < 100 {
			t.Errorf("%v was told %d times", e, codes[e])
		}
	}
}
