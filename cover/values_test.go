package cover

import (
	"math/rand"
	"slices"
	"strconv"
	"strings"
	"testing"

	"patina/api"
	"patina/parse"
)

// made are types that sources of this test have: enums of one another, and what else patterns are held against.
type made struct {
	enums []api.Enum
	r     *rand.Rand
}

func (m *made) source() string {
	s := "struct S { a: bool } "
	for _, e := range m.enums {
		var l []string
		for _, v := range e.Variants {
			if v.Type == "" {
				l = append(l, v.Name)
			} else {
				l = append(l, v.Name+"("+v.Type+")")
			}
		}
		s += "enum " + e.Name + " { " + strings.Join(l, ", ") + " } "
	}
	return s
}

func newMade(r *rand.Rand) *made {
	m := &made{r: r}
	for k := range 1 + r.Intn(4) {
		e := api.Enum{Name: "E" + strconv.Itoa(k)}
		for v := range 1 + r.Intn(3) {
			e.Variants = append(e.Variants, api.Field{Name: "V" + strconv.Itoa(v), Type: []string{"", m.aType()}[r.Intn(2)]})
		}
		m.enums = append(m.enums, e)
	}
	return m
}

func (m *made) aType() string {
	l := []string{"i64", "bool", "bool", "()", "S", "Box<bool>"}
	for _, e := range m.enums {
		l = append(l, e.Name, e.Name, e.Name)
	}
	return l[m.r.Intn(len(l))]
}

func (m *made) variants(of string) []api.Field {
	for _, e := range m.enums {
		if e.Name == of {
			return e.Variants
		}
	}
	return nil
}

// numbers are those that patterns name, and one more.
var numbers = []string{"-1", "0", "7", "8"}

func (m *made) pattern(of string) string {
	switch {
	case m.r.Intn(7) == 0:
		return "_"
	case m.r.Intn(9) == 0:
		return "x"
	case of == "i64":
		return numbers[m.r.Intn(3)]
	case of == "bool":
		return strconv.FormatBool(m.r.Intn(2) == 0)
	}
	l := m.variants(of)
	if len(l) == 0 {
		return "_"
	}
	v := l[m.r.Intn(len(l))]
	if v.Type == "" {
		return of + "::" + v.Name
	}
	return of + "::" + v.Name + "(" + m.pattern(v.Type) + ")"
}

// values are the values of a type, as patterns that fit nothing else; a value without parts that patterns see is ?.
func (m *made) values(of string) []string {
	var all []string
	switch {
	case of == "i64":
		return numbers
	case of == "bool":
		return []string{"false", "true"}
	case m.variants(of) == nil:
		return []string{"?"}
	}
	for _, v := range m.variants(of) {
		if v.Type == "" {
			all = append(all, of+"::"+v.Name)
			continue
		}
		for _, inner := range m.values(v.Type) {
			all = append(all, of+"::"+v.Name+"("+inner+")")
		}
	}
	return all
}

// fitted tells whether a pattern fits a value: letter by letter, up to where the pattern has _ or a variable.
func fitted(pattern, value string) bool {
	bare := strings.TrimRight(pattern, ")")
	if strings.HasSuffix(bare, "_") || strings.HasSuffix(bare, "x") {
		return strings.HasPrefix(value, bare[:len(bare)-1])
	}
	return pattern == value
}

func anyFits(patterns []string, value string) bool {
	return slices.ContainsFunc(patterns, func(p string) bool { return fitted(p, value) })
}

// never are those of some patterns that fit nothing but what ones ahead fit.
func never(patterns, values []string) []int {
	var l []int
	for k, p := range patterns {
		left := slices.ContainsFunc(values, func(v string) bool { return fitted(p, v) && !anyFits(patterns[:k], v) })
		if !left {
			l = append(l, k)
		}
	}
	return l
}

// missingOf is the pattern of the first value that none fits, cut where none of the patterns goes on.
func (m *made) missingOf(patterns, values []string, of string) string {
	for _, v := range values {
		if !anyFits(patterns, v) {
			return m.cut(patterns, v, "", of)
		}
	}
	return ""
}

// cut is a value as a pattern, with a _ for a payload whose variant no pattern names, and for what is no bool and no enum.
func (m *made) cut(patterns []string, value, ahead, of string) string {
	rest := strings.TrimRight(value[len(ahead):], ")")
	if of == "bool" {
		return rest
	}
	for _, v := range m.variants(of) {
		name := of + "::" + v.Name
		if rest != name && !strings.HasPrefix(rest, name+"(") {
			continue
		}
		if v.Type == "" {
			return name
		}
		named := slices.ContainsFunc(patterns, func(p string) bool { return strings.HasPrefix(p, ahead+name+"(") })
		if !named {
			return name + "(_)"
		}
		return name + "(" + m.cut(patterns, value, ahead+name+"(", v.Type) + ")"
	}
	return "_"
}

// 17.1 to 17.3: what is told of matches is what their values say.
func TestValues(t *testing.T) {
	r := rand.New(rand.NewSource(17))
	told := map[api.Errno]int{}
	for range 4000 {
		m := newMade(r)
		of := m.aType()
		values := m.values(of)
		var patterns []string
		for range r.Intn(8) {
			patterns = append(patterns, m.pattern(of))
		}
		source := strings.Replace(matched([]string{"", "&", "&mut "}[r.Intn(3)]+of, patterns...), kinds, m.source(), 1)
		u := typedOf(t, source)
		n := nodesOf(u, api.KMatch)[0]
		want := m.missingOf(patterns, values, of)
		text, some, e := Missing(u, n)
		if text != want || some != (want != "") || e != api.OK {
			t.Fatalf("%q %v %v, not %q: %s", text, some, e, want, source)
		}
		got, e := Never(u, n)
		if !slices.Equal(got, never(patterns, values)) || e != api.OK {
			t.Fatalf("%v %v, not %v: %s", got, e, never(patterns, values), source)
		}
		wantFollows(t, source, patterns, values, text, got)
		d, e := Check(u)
		wantDiag := api.Diag{}
		if some {
			wantDiag = api.Diag{Code: api.ErrMissing, From: u.Tree.Nodes[n].From, To: u.Tree.Nodes[n].To}
		} else if len(got) > 0 {
			p := u.Tree.Nodes[u.Tree.Nodes[u.Tree.Nodes[n].Kids[1+got[0]]].Kids[0]]
			wantDiag = api.Diag{Code: api.ErrNever, From: p.From, To: p.To}
		}
		if d != wantDiag || e != api.OK {
			t.Fatalf("%v %v, not %v: %s", d, e, wantDiag, source)
		}
		told[d.Code]++
		wantRefutable(t, m, u)
	}
	if told[api.OK] < 100 || told[api.ErrMissing] < 100 || told[api.ErrNever] < 100 {
		t.Error(told)
	}
}

// isNumber tells whether a value is a number within all its variants: of those _ is told as missing, though some of them are not.
func isNumber(value string) bool {
	bare := strings.TrimRight(value, ")")
	return slices.Contains(numbers, bare[strings.LastIndex(bare, "(")+1:])
}

// wantFollows holds what is told to 17.3.
func wantFollows(t *testing.T, source string, patterns, values []string, missing string, never []int) {
	t.Helper()
	left := 0
	for _, v := range values {
		fits := anyFits(patterns, v)
		if missing != "" && fits && fitted(missing, v) && !isNumber(v) {
			t.Fatalf("%s is missing and %s not: %s", missing, v, source)
		}
		if !fits {
			left++
		}
	}
	if (missing != "") != (left > 0) {
		t.Fatalf("%q is missing, %d left: %s", missing, left, source)
	}
	if missing != "" {
		if _, d := parse.Pattern(missing); d.Code != api.OK {
			t.Fatalf("%q is no pattern: %v", missing, d)
		}
		return
	}
	last := len(patterns) - 1
	ahead := slices.ContainsFunc(values, func(v string) bool { return !anyFits(patterns[:last], v) })
	if ahead && slices.Contains(never, last) {
		t.Fatalf("the last one is never taken: %s", source)
	}
}

// wantRefutable holds Refutable of all patterns to the values that they do not fit.
func wantRefutable(t *testing.T, m *made, u api.Typed) {
	t.Helper()
	for n, x := range u.Tree.Nodes {
		if !isPattern(x.Kind) {
			continue
		}
		of := strings.TrimPrefix(strings.TrimPrefix(u.Types[n], "&"), "mut ")
		text := patternText(u, n)
		want := slices.ContainsFunc(m.values(of), func(v string) bool { return !fitted(text, v) })
		if got, e := Refutable(u, n); got != want || e != api.OK {
			t.Fatalf("%s of %s: %v %v", text, of, got, e)
		}
	}
}

func patternText(u api.Typed, n int) string {
	x := u.Tree.Nodes[n]
	switch {
	case x.Kind == api.KPAny:
		return "_"
	case x.Kind == api.KPVar:
		return x.Name
	case x.Kind == api.KPNum:
		return strconv.FormatInt(x.Num, 10)
	case x.Kind == api.KPTruth:
		return strconv.FormatBool(x.Num == 1)
	case len(x.Kids) == 0:
		return x.Name
	}
	return x.Name + "(" + patternText(u, x.Kids[0]) + ")"
}

// A match of as many arms as a tree holds is told within a moment, and a pattern as deep as one may be.
func TestGreat(t *testing.T) {
	var patterns []string
	for k := range 4900 {
		patterns = append(patterns, strconv.Itoa(k))
	}
	u := typedOf(t, matched("i64", append(patterns, "7")...))
	n := nodesOf(u, api.KMatch)[0]
	if got, e := Never(u, n); !slices.Equal(got, []int{4900}) || e != api.OK {
		t.Error(got, e)
	}
	if text, some, e := Missing(u, n); text != "_" || !some || e != api.OK {
		t.Error(text, some, e)
	}
	var s strings.Builder
	for k := range 30 {
		s.WriteString("enum D" + strconv.Itoa(k) + " { A(D" + strconv.Itoa(k+1) + "), B } ")
	}
	s.WriteString("enum D30 { A(bool), B } ")
	deep, missing := "true", "false"
	for k := 30; k >= 0; k-- {
		deep, missing = "D"+strconv.Itoa(k)+"::A("+deep+")", "D"+strconv.Itoa(k)+"::A("+missing+")"
	}
	u = typedOf(t, s.String()+strings.TrimPrefix(matched("D0", deep), kinds))
	if text, some, e := Missing(u, nodesOf(u, api.KMatch)[0]); text != missing || !some || e != api.OK {
		t.Error(text, some, e)
	}
}

// P1: trees and numbers of any kind.
func TestArbitrary(t *testing.T) {
	r := rand.New(rand.NewSource(171))
	u := typedOf(t, matched("F", "F::X(E::A)", "F::X(E::B(true))", "F::Z(1)", "_"))
	for range 3000 {
		v := u
		v.Tree.Nodes = slices.Clone(u.Tree.Nodes)
		v.Types, v.Vars = slices.Clone(u.Types), slices.Clone(u.Vars)
		n := r.Intn(len(v.Tree.Nodes))
		x := &v.Tree.Nodes[n]
		switch r.Intn(6) {
		case 0:
			x.Kind = r.Intn(60) - 2
		case 1:
			x.Kids = []int{r.Intn(80) - 5, r.Intn(80) - 5}[:r.Intn(3)]
		case 2:
			x.Name = []string{"", "E::B", "E", "E::", "::", "F::Q"}[r.Intn(6)]
		case 3:
			x.Num = int64(r.Intn(5)) - 2
		case 4:
			v.Types[n] = []string{"", "!", "&", "bool", "E", "&&E"}[r.Intn(6)]
		case 5:
			v.Vars = v.Vars[:r.Intn(len(v.Vars))]
		}
		at := r.Intn(len(v.Tree.Nodes)+4) - 2
		_, first := Check(v)
		_, _, second := Missing(v, at)
		_, third := Never(v, at)
		_, fourth := Refutable(v, at)
		if first == api.ErrTyped && (second != first || third != first || fourth != first) {
			t.Fatal(first, second, third, fourth)
		}
	}
}
