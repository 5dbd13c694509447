package mir

import (
	"math"
	"math/rand"
	"reflect"
	"slices"
	"strings"
	"testing"

	"patina/api"
)

// faces are the errors that all functions that look at MIR tell of it.
func faces(m api.Mir, f int) []api.Errno {
	_, text := Text(m, f)
	_, preds := Preds(m, f)
	_, order := Order(m, f)
	_, dominators := Dominators(m, f)
	_, loops := Loops(m, f)
	_, typed := Type(m, f, api.Place{})
	return []api.Errno{text, preds, order, dominators, loops, typed}
}

// wantNothing holds all answers beside an error to zeros.
func wantNothing(t *testing.T, m api.Mir, f int) {
	t.Helper()
	text, _ := Text(m, f)
	preds, _ := Preds(m, f)
	order, _ := Order(m, f)
	dominators, _ := Dominators(m, f)
	loops, _ := Loops(m, f)
	typed, _ := Type(m, f, api.Place{})
	if text != "" || typed != "" || len(preds)+len(order)+len(dominators)+len(loops) > 0 {
		t.Error(text, typed, preds, order, dominators, loops)
	}
}

// 19.2, R1: ErrMir, then ErrNone of the function.
func TestErrors(t *testing.T) {
	good := one(t, "_1 = 1")
	bad := one(t, "_1 = true")
	for _, f := range []int{-1, 0, 1, 2, 3, math.MinInt, math.MaxInt} {
		want := api.OK
		if f < 0 || f > 2 {
			want = api.ErrNone
			wantNothing(t, good, f)
		}
		if l := faces(good, f); slices.ContainsFunc(l, func(e api.Errno) bool { return e != want }) {
			t.Error(f, l)
		}
		if l := faces(bad, f); slices.ContainsFunc(l, func(e api.Errno) bool { return e != api.ErrMir }) {
			t.Error(f, l)
		}
		wantNothing(t, bad, f)
		if s, e := Type(bad, f, api.Place{Local: 99}); s != "" || e != api.ErrMir {
			t.Error(s, e)
		}
	}
}

// 19.2: Type of each place, and of none.
func TestType(t *testing.T) {
	m := one(t, "_1 = 1")
	for text, want := range map[string]string{
		"_0": "()", "_1": "i64", "_6": "&mut S", "_6.*": "S", "_6.*.0": "i64", "_6.*.1": "Box<i64>", "_6.*.1.*": "i64", "_7.@1": "i64", "_7.@2": "S", "_7.@2.1": "Box<i64>", "_8.*.@2.0": "i64", "_9.2": "()", "_9.3.*": "L", "_9.3.*.@1.*.@1": "Box<L>", "_15": "Box<Box<i64>>", "_15.*": "Box<i64>", "_20.*": "bool",
		"_21": "", "_-1": "", "_1.0": "", "_1.*": "", "_4.2": "", "_4.@0": "", "_4.*": "", "_7.@0": "", "_7.@3": "", "_7.0": "", "_6.0": "", "_6.@0": "", "_11.0": "", "_4.0.0": "", "_12" + strings.Repeat(".@1.*", 50): "L", "_12" + strings.Repeat(".@1.*", 50) + ".@1": "", "_12" + strings.Repeat(".@1.*", 40000): "",
	} {
		e := api.OK
		if want == "" {
			e = api.ErrNone
		}
		if s, got := Type(m, 2, placeOf(text)); s != want || got != e {
			t.Errorf("%.20s: %q %v", text, s, got)
		}
	}
	if s, e := Type(m, 0, api.Place{Local: 3, Path: []int{-1, 1, -1}}); s != "i64" || e != api.OK {
		t.Error(s, e)
	}
	if s, e := Type(m, 1, api.Place{Local: 2}); s != "" || e != api.ErrNone {
		t.Error(s, e)
	}
	for _, p := range []api.Place{{Local: math.MinInt}, {Local: math.MaxInt}, {Local: 4, Path: []int{math.MaxInt}}, {Local: 7, Path: []int{math.MinInt}}} {
		if s, e := Type(m, 2, p); s != "" || e != api.ErrNone {
			t.Error(p, s, e)
		}
	}
}

// full is MIR of all kinds, with places in the source.
func full(t *testing.T) api.Mir {
	t.Helper()
	m := withMain(t, "bb0\nlive _1\n_1 = copy _4.0 + 3\n_7 = pick E 2 move _4\n_4 = make S 1 move _3\n_6 = mut _9.0\ndrop _9.3\nfree _15\ndead _1\nswitch copy _1 0 1 5 2 3\nbb1\n_5 = call f 1 copy _5 move _10 -> 2\nbb2\nif copy _2 0 3\nbb3\n_1 = tag _8.*\npanic 102\n")
	for f := range m.Fns {
		for k := range m.Fns[f].Blocks {
			b := &m.Fns[f].Blocks[k]
			b.Term.At, b.Term.Till = 10*k+1, 10*k+2
			for i := range b.Stmts {
				b.Stmts[i].From, b.Stmts[i].To = 100*k+i, 100*k+i+1
			}
		}
	}
	main(&m).Locals[1].Name, main(&m).Locals[2].Mut = "x", true
	return m
}

// changes goes through all fields and lists below a value, and tries each change of one of them, by its name.
func changes(v reflect.Value, name string, try func(name string)) {
	switch v.Kind() {
	case reflect.Struct:
		for k := range v.NumField() {
			changes(v.Field(k), name+" "+v.Type().Name()+"."+v.Type().Field(k).Name, try)
		}
	case reflect.Slice:
		for k := range v.Len() {
			changes(v.Index(k), name, try)
		}
		old := reflect.ValueOf(v.Interface())
		v.Set(reflect.Append(reflect.AppendSlice(reflect.MakeSlice(v.Type(), 0, 0), old), reflect.Zero(v.Type().Elem())))
		try(name + " longer")
		if old.Len() > 0 {
			v.Set(old.Slice(0, old.Len()-1))
			try(name + " shorter")
		}
		v.Set(old)
	case reflect.Int, reflect.Int64:
		old := v.Int()
		v.SetInt(old + 1)
		try(name)
		v.SetInt(old)
	case reflect.String:
		old := v.String()
		v.SetString(old + "x")
		try(name)
		v.SetString(old)
	case reflect.Bool:
		v.SetBool(!v.Bool())
		try(name)
		v.SetBool(!v.Bool())
	}
}

// 19.1: Same of programs that differ in one field alone.
func TestSame(t *testing.T) {
	a, b := full(t), full(t)
	if Check(a) != api.OK || !Same(a, b) {
		t.Fatal("not the same")
	}
	seen, free := 0, 0
	changes(reflect.ValueOf(&b).Elem(), "", func(name string) {
		seen++
		want := false
		for _, field := range []string{"MStmt.From", "MStmt.To", "MTerm.At", "MTerm.Till", "Fn.Node"} {
			want = want || strings.HasSuffix(name, " "+field)
		}
		if want {
			free++
		}
		if Same(a, b) != want || Same(b, a) != want {
			t.Errorf("%s: %v", name, !want)
		}
	})
	if !reflect.DeepEqual(a, b) || seen < 300 || free < 20 {
		t.Error(seen, free)
	}
}

// 19.1, R2: lists without an element are the same; Same of any programs.
func TestSameOfAny(t *testing.T) {
	if !Same(api.Mir{}, api.Mir{Fns: []api.MFn{}, Items: api.Items{Structs: []api.Struct{}, Enums: []api.Enum{}, Fns: []api.Fn{}}}) {
		t.Error("empty lists")
	}
	wrong := func() api.Mir {
		return api.Mir{Fns: []api.MFn{{Name: "\xff", Params: -3, Blocks: []api.MBlock{{Stmts: []api.MStmt{{Kind: 77}}, Term: api.MTerm{Kind: -1, To: []int{-5}}}}}}}
	}
	if !Same(wrong(), wrong()) {
		t.Error("wrong ones")
	}
	filled := wrong()
	filled.Fns[0].Locals = []api.Local{}
	x := &filled.Fns[0].Blocks[0]
	x.Stmts[0].Place.Path, x.Stmts[0].R.Args, x.Stmts[0].R.Place.Path = []int{}, []api.Operand{}, []int{}
	x.Term.Values, x.Term.Args, x.Term.Place.Path, x.Term.Arg.Place.Path = []int64{}, []api.Operand{}, []int{}, []int{}
	if !Same(wrong(), filled) || !Same(filled, wrong()) || Same(filled, api.Mir{}) {
		t.Error("empty lists within")
	}
	a, b := full(t), full(t)
	a.Items.Fns[1].Node, a.Items.Fns[2].Node = -4, 1<<40
	if !Same(a, b) || a.Items.Fns[1].Node != -4 {
		t.Error("Nodes")
	}
}

// R3: what is handed in is not changed, and answers are new memory.
func TestMemory(t *testing.T) {
	m, old := full(t), full(t)
	for range 2 {
		Check(m)
		Text(m, 2)
		preds, _ := Preds(m, 2)
		order, _ := Order(m, 2)
		above, _ := Dominators(m, 2)
		loops, _ := Loops(m, 2)
		if !same(preds, [][]int{{2}, {0}, {0, 1}, {0, 2}}) || !slices.Equal(order, []int{0, 1, 2, 3}) || !slices.Equal(above, []int{-1, 0, 0, 0}) || !slices.Equal(loops, [][2]int{{2, 0}}) || !reflect.DeepEqual(m, old) {
			t.Fatal(preds, order, above, loops)
		}
		for _, l := range append(preds, order, above) {
			l = append(l, 55)[:cap(l)]
			for k := range l {
				l[k] = 99
			}
		}
	}
	preds, _ := Preds(m, 2)
	for k := range preds { // no list lies in another one's room
		_ = append(preds[k], 99)
	}
	if !same(preds, [][]int{{2}, {0}, {0, 1}, {0, 2}}) {
		t.Error(preds)
	}
}

// filler fills values of any kind with anything.
type filler struct {
	r *rand.Rand
}

func (f filler) number() int64 {
	switch f.r.Intn(12) {
	case 0:
		return math.MinInt64
	case 1:
		return math.MaxInt64
	case 2:
		return int64(f.r.Intn(300) - 150)
	}
	return int64(f.r.Intn(8) - 1)
}

func (f filler) text() string {
	l := []string{"", "i64", "bool", "()", "S", "E", "main", "f", "print", "read", "panic", "+", "==", "&", "&S", "&mut S", "Box<i64>", "Box<", "!", "x"}
	return l[f.r.Intn(len(l))]
}

func (f filler) fill(v reflect.Value, deep int) {
	switch v.Kind() {
	case reflect.Struct:
		for k := range v.NumField() {
			f.fill(v.Field(k), deep)
		}
	case reflect.Slice:
		n := f.r.Intn(4)
		v.Set(reflect.MakeSlice(v.Type(), n, n+f.r.Intn(2)))
		for k := range n {
			f.fill(v.Index(k), deep-1)
		}
	case reflect.Int, reflect.Int64:
		v.SetInt(f.number())
	case reflect.String:
		v.SetString(f.text())
	case reflect.Bool:
		v.SetBool(f.r.Intn(2) == 0)
	}
}

// P1: arbitrary MIR.
func TestArbitrary(t *testing.T) {
	r := rand.New(rand.NewSource(191))
	f := filler{r}
	for range 2000 {
		var m, other api.Mir
		f.fill(reflect.ValueOf(&m).Elem(), 3)
		f.fill(reflect.ValueOf(&other).Elem(), 3)
		if r.Intn(2) == 0 { // right items, and what stands in functions of them
			base := full(t)
			for _, x := range m.Fns {
				base.Fns[2].Blocks = append(base.Fns[2].Blocks, x.Blocks...)
			}
			m = base
		}
		if want := modelRight(m); want != (Check(m) == api.OK) {
			t.Fatal(want, m)
		}
		faces(m, int(f.number()))
		Same(m, other)
		if !Same(m, m) {
			t.Fatal("not the same as itself", m)
		}
		for _, x := range other.Fns {
			for _, b := range x.Blocks {
				Next(b.Term)
			}
		}
	}
}

// mutate changes some one thing below a value to another one of its kind.
func (f filler) mutate(v reflect.Value) {
	for {
		switch v.Kind() {
		case reflect.Struct:
			v = v.Field(f.r.Intn(v.NumField()))
		case reflect.Slice:
			if v.Len() > 0 && f.r.Intn(6) > 0 {
				v = v.Index(f.r.Intn(v.Len()))
				continue
			}
			fresh := reflect.New(v.Type().Elem()).Elem()
			f.fill(fresh, 1)
			if v.Len() > 0 && f.r.Intn(2) == 0 {
				v.Set(v.Slice(0, v.Len()-1))
			} else {
				v.Set(reflect.Append(v.Slice3(0, v.Len(), v.Len()), fresh))
			}
			return
		default:
			f.fill(v, 1)
			return
		}
	}
}

// 19.1: programs that are nearly right are told so just if the rules say it.
func TestNearlyRight(t *testing.T) {
	r := rand.New(rand.NewSource(192))
	f := filler{r}
	told := map[bool]int{}
	for range 5000 {
		m := full(t)
		for range 1 + r.Intn(2) {
			blocks := &m.Fns[r.Intn(3)].Blocks
			switch r.Intn(8) {
			case 0:
				f.mutate(reflect.ValueOf(&m).Elem())
			case 1:
				f.mutate(reflect.ValueOf(&m.Fns).Elem())
			case 2, 3:
				if len(*blocks) > 0 {
					f.mutate(reflect.ValueOf(&(*blocks)[r.Intn(len(*blocks))].Term).Elem())
				}
			default:
				f.mutate(reflect.ValueOf(blocks).Elem())
			}
			if len(m.Fns) != 3 {
				break
			}
		}
		want := modelRight(m)
		if (Check(m) == api.OK) != want {
			t.Fatalf("%v: %+v", want, m)
		}
		told[want]++
	}
	if told[true] < 300 || told[false] < 300 {
		t.Error(told)
	}
}
