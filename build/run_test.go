package build

import (
	"math/big"
	"math/rand"
	"strconv"
	"testing"

	"patina/api"
	"patina/check"
	"patina/eval"
	"patina/items"
	"patina/types"
)

// runner runs MIR over objects of words, so that what is built can be held against what its tree does. It is no part of the program.
type runner struct {
	m     api.Mir
	in    []byte
	out   []byte
	fuel  int
	calls int
	code  int
	undef bool
	none  bool // out of fuel
	words map[string]int
}

// thing is an object; its words are nil (nothing), numbers, or pointers.
type thing struct {
	words []any
	lives bool
}

type pointer struct {
	to *thing
	at int
}

type stopped struct{}

func (r *runner) stop(code int) {
	r.code = code
	panic(stopped{})
}

func (r *runner) undefined() {
	r.undef = true
	panic(stopped{})
}

func (r *runner) step() {
	if r.fuel--; r.fuel < 0 {
		r.none = true
		panic(stopped{})
	}
}

func (r *runner) size(t string) int {
	if _, there := r.words[t]; !there {
		r.words[t], _ = types.Words(r.m.Items, t)
	}
	return r.words[t]
}

// run runs main.
func (r *runner) run() {
	defer func() {
		if x := recover(); x != nil && x != (stopped{}) {
			panic(x)
		}
	}()
	f, _ := items.Fn(r.m.Items, "main")
	r.call(f, nil)
}

func (r *runner) word(p pointer) any {
	if !p.to.lives || p.at >= len(p.to.words) {
		r.undefined()
	}
	return p.to.words[p.at]
}

func (r *runner) there(p pointer) any {
	w := r.word(p)
	if w == nil {
		r.undefined()
	}
	return w
}

func (r *runner) numberAt(p pointer) int64 {
	n, is := r.there(p).(int64)
	if !is {
		r.undefined()
	}
	return n
}

func (r *runner) pointerAt(p pointer) pointer {
	q, is := r.there(p).(pointer)
	if !is || !q.to.lives {
		r.undefined()
	}
	return q
}

// within are the parts of a value: where they begin, and their types. A tag that is nothing has none.
func (r *runner) within(p pointer, t string, read bool) ([]pointer, []string) {
	var places []pointer
	var texts []string
	if s, is := items.Struct(r.m.Items, t); is {
		for _, f := range s.Fields {
			places, texts = append(places, p), append(texts, f.Type)
			p.at += r.size(f.Type)
		}
	}
	if e, is := items.Enum(r.m.Items, t); is && (read || r.word(p) != nil) {
		v := e.Variants[r.numberAt(p)]
		if v.Type != "" {
			places, texts = append(places, pointer{p.to, p.at + 1}), append(texts, v.Type)
		}
	}
	return places, texts
}

func (r *runner) read(p pointer, t string) []any {
	if !p.to.lives {
		r.undefined()
	}
	value := make([]any, r.size(t))
	_, isStruct := items.Struct(r.m.Items, t)
	if !isStruct && len(value) > 0 {
		value[0] = r.there(p)
	}
	places, texts := r.within(p, t, true)
	for k, q := range places {
		copy(value[q.at-p.at:], r.read(q, texts[k]))
	}
	return value
}

func (r *runner) write(p pointer, value []any) {
	if !p.to.lives || p.at+len(value) > len(p.to.words) {
		r.undefined()
	}
	copy(p.to.words[p.at:], value)
}

func (r *runner) drop(p pointer, t string) {
	if inner, points := types.Inner(t); points && t[0] == 'B' {
		if r.word(p) != nil {
			q := r.pointerAt(p)
			r.step()
			r.drop(q, inner)
			q.to.lives = false
		}
		return
	}
	places, texts := r.within(p, t, false)
	for k, q := range places {
		r.drop(q, texts[k])
	}
}

func (r *runner) clear(p pointer, t string) {
	if !p.to.lives {
		r.undefined()
	}
	for k := range r.size(t) {
		p.to.words[p.at+k] = nil
	}
}

// frame is a call's.
type frame struct {
	*runner
	f      api.MFn
	locals []*thing
}

func (x *frame) place(p api.Place) (pointer, string) {
	q, t := pointer{x.locals[p.Local], 0}, x.f.Locals[p.Local].Type
	for _, step := range p.Path {
		next, _ := types.At(x.m.Items, t, []int{step})
		switch {
		case step == -1:
			q = x.pointerAt(q)
		case step < -1:
			if x.numberAt(q) != int64(-2-step) {
				x.undefined()
			}
			q.at++
		default:
			offset, _ := types.Offset(x.m.Items, t, step)
			q.at += offset
		}
		t = next
	}
	return q, t
}

func (x *frame) operand(o api.Operand) []any {
	switch o.Kind {
	case api.ONum, api.OTruth:
		return []any{o.Num}
	case api.OUnit:
		return nil
	}
	p, t := x.place(o.Place)
	value := x.read(p, t)
	if o.Kind == api.OMove {
		x.clear(p, t)
	}
	return value
}

func (x *frame) rvalue(r api.Rvalue, t string) []any {
	var args [][]any
	var all []any
	for _, o := range r.Args {
		args = append(args, x.operand(o))
		all = append(all, args[len(args)-1]...)
	}
	switch r.Kind {
	case api.RBin:
		return []any{x.sign(r.Op, all[0].(int64), all[1].(int64))}
	case api.RNeg:
		return []any{x.sign("-", 0, all[0].(int64))}
	case api.RNot:
		return []any{1 - all[0].(int64)}
	case api.RRef, api.RMut:
		p, _ := x.place(r.Place)
		if !p.to.lives {
			x.undefined()
		}
		return []any{p}
	case api.RBox:
		return []any{pointer{&thing{all, true}, 0}}
	case api.RPick:
		return append(append([]any{int64(r.Variant)}, all...), make([]any, x.size(t)-1-len(all))...)
	case api.RTag:
		p, _ := x.place(r.Place)
		return []any{x.numberAt(p)}
	}
	return all
}

func (r *runner) sign(op string, a, b int64) int64 {
	x, y, z := big.NewInt(a), big.NewInt(b), new(big.Int)
	truth := map[string]bool{"<": a < b, "<=": a <= b, ">": a > b, ">=": a >= b, "==": a == b, "!=": a != b}
	if holds, is := truth[op]; is {
		return map[bool]int64{true: 1}[holds]
	}
	if b == 0 && (op == "/" || op == "%") {
		r.stop(api.ExitDivide)
	}
	switch op {
	case "+":
		z.Add(x, y)
	case "-":
		z.Sub(x, y)
	case "*":
		z.Mul(x, y)
	case "/", "%":
		if z.Quo(x, y); op == "%" && z.IsInt64() {
			z.Rem(x, y)
		}
	}
	if !z.IsInt64() {
		r.stop(api.ExitOverflow)
	}
	return z.Int64()
}

func (r *runner) call(f int, args [][]any) []any {
	if r.calls++; r.calls > 1000 {
		r.none = true
		panic(stopped{})
	}
	x := &frame{runner: r, f: r.m.Fns[f]}
	for k, l := range x.f.Locals {
		x.locals = append(x.locals, &thing{make([]any, r.size(l.Type)), true})
		if k > 0 && k <= len(args) {
			copy(x.locals[k].words, args[k-1])
		}
	}
	at := 0
	for at >= 0 {
		b := x.f.Blocks[at]
		for _, s := range b.Stmts {
			r.step()
			x.statement(s)
		}
		r.step()
		at = x.end(b.Term)
	}
	told := r.read(pointer{x.locals[0], 0}, x.f.Locals[0].Type)
	for _, o := range x.locals {
		o.lives = false
	}
	r.calls--
	return told
}

func (x *frame) statement(s api.MStmt) {
	switch s.Kind {
	case api.MSet:
		value := x.rvalue(s.R, x.f.Locals[s.Place.Local].Type)
		p, _ := x.place(s.Place)
		x.write(p, value)
	case api.MDrop:
		p, t := x.place(s.Place)
		if !p.to.lives {
			x.undefined()
		}
		x.drop(p, t)
		x.clear(p, t)
	case api.MLive, api.MDead:
		old := x.locals[s.Place.Local]
		old.lives = false
		if s.Kind == api.MLive {
			x.locals[s.Place.Local] = &thing{make([]any, len(old.words)), true}
		}
	}
}

// end is the block behind one; -1: the call is back.
func (x *frame) end(t api.MTerm) int {
	switch t.Kind {
	case api.TIf:
		return t.To[1-x.operand(t.Arg)[0].(int64)]
	case api.TSwitch:
		v := x.operand(t.Arg)[0].(int64)
		for k, n := range t.Values {
			if n == v {
				return t.To[k]
			}
		}
		return t.To[len(t.Values)]
	case api.TCall:
		x.callOf(t)
	case api.TReturn:
		return -1
	case api.TPanic:
		x.stop(t.Code)
	}
	return t.To[0]
}

func (x *frame) callOf(t api.MTerm) {
	var args [][]any
	for _, o := range t.Args {
		args = append(args, x.operand(o))
	}
	var told []any
	switch t.Name {
	case "print":
		x.out = append(strconv.AppendInt(x.out, args[0][0].(int64), 10), '\n')
	case "read":
		told = []any{int64(-1)}
		if len(x.in) > 0 {
			told = []any{int64(x.in[0])}
			x.in = x.in[1:]
		}
	default:
		f, _ := items.Fn(x.m.Items, t.Name)
		told = x.call(f, args)
	}
	p, _ := x.place(t.Place)
	x.write(p, told)
}

// What is built does what its tree does: where the tree's run ends, so does that of the MIR, with the same code and the same output.
func TestDoesWhatTheTreeDoes(t *testing.T) {
	r := rand.New(rand.NewSource(214))
	codes := map[int]int{}
	for k := range 500 {
		m := &maker{r: r, plain: k%5 == 0}
		source := m.source(r.Intn(4))
		u := typedOf(t, source)
		if r.Intn(2) == 0 {
			u, _ = check.Of(shuffled(r, u.Tree))
		}
		in := []byte("\x00\x01\x02A")[:r.Intn(5)]
		want, _ := eval.Run(u, in, 20000)
		if want.End != api.EndDone {
			continue
		}
		x, d := Of(u)
		if d.Code != api.OK {
			continue
		}
		run := &runner{m: x, in: in, fuel: 1000000, words: map[string]int{}}
		run.run()
		if run.undef || run.none || run.code != want.Code || string(run.out) != string(want.Out) {
			t.Fatalf("%v %v %d %q, not %d %q\n%s", run.undef, run.none, run.code, run.out, want.Code, want.Out, source)
		}
		codes[want.Code]++
	}
	if codes[api.ExitDone] < 100 || codes[api.ExitOverflow] < 1 || codes[api.ExitPanic] < 5 {
		t.Error(codes)
	}
}
