package mirtest

import "patina/api"

// Spoil changes one thing of MIR, in its own memory, to another one of its kind, by choices; most often it is no longer right.
func Spoil(m *api.Mir, choose func(n int) int) {
	s := &spoiler{choose: choose}
	s.items(&m.Items)
	listed(s, &m.Fns, s.function)
	if choose(4) == 0 { // few things are items, next to all those that blocks have
		s.changes = nil
		s.items(&m.Items)
	}
	s.changes[choose(len(s.changes))]()
}

// spoiler has one change for each thing.
type spoiler struct {
	choose  func(n int) int
	changes []func()
}

func (s *spoiler) add(change func()) { s.changes = append(s.changes, change) }

// numbered makes things to other numbers.
func numbered[T int | int64](s *spoiler, l ...*T) {
	numbers := []T{-1 << 63, -100, -3, -2, -1, 0, 1, 2, 3, 4, 10, 60, 1<<63 - 1}
	for _, n := range l {
		s.add(func() { *n = numbers[s.choose(len(numbers))] })
	}
}

func (s *spoiler) texts(l ...*string) {
	texts := []string{"", "i64", "bool", "()", "S", "E", "Box<i64>", "&S", "&mut S", "Box<", "+", "/", "==", "print", "read", "f", "x"}
	for _, t := range l {
		s.add(func() { *t = texts[s.choose(len(texts))] })
	}
}

// listed makes a list to a short one of zeros, or changes one thing of what it has.
func listed[T any](s *spoiler, l *[]T, each func(*T)) {
	s.add(func() { *l = make([]T, s.choose(3)) })
	for k := range *l {
		each(&(*l)[k])
	}
}

func (s *spoiler) items(it *api.Items) {
	listed(s, &it.Structs, func(x *api.Struct) {
		s.texts(&x.Name)
		listed(s, &x.Fields, s.field)
	})
	listed(s, &it.Enums, func(x *api.Enum) {
		s.texts(&x.Name)
		listed(s, &x.Variants, s.field)
	})
	listed(s, &it.Fns, func(x *api.Fn) {
		s.texts(&x.Name, &x.Ret)
		listed(s, &x.Params, s.field)
	})
}

func (s *spoiler) field(x *api.Field) { s.texts(&x.Name, &x.Type) }

func (s *spoiler) function(f *api.MFn) {
	s.texts(&f.Name)
	numbered(s, &f.Params)
	listed(s, &f.Locals, func(l *api.Local) { s.texts(&l.Type) })
	listed(s, &f.Blocks, func(b *api.MBlock) {
		listed(s, &b.Stmts, s.statement)
		s.end(&b.Term)
	})
}

func (s *spoiler) statement(x *api.MStmt) {
	numbered(s, &x.Kind, &x.R.Kind, &x.R.Variant, &x.From, &x.To)
	s.texts(&x.R.Op, &x.R.Name)
	s.place(&x.Place)
	s.place(&x.R.Place)
	listed(s, &x.R.Args, s.operand)
}

func (s *spoiler) end(t *api.MTerm) {
	numbered(s, &t.Kind, &t.Code, &t.At, &t.Till)
	s.texts(&t.Name)
	s.place(&t.Place)
	s.operand(&t.Arg)
	listed(s, &t.Args, s.operand)
	listed(s, &t.To, func(to *int) { numbered(s, to) })
	listed(s, &t.Values, func(v *int64) { numbered(s, v) })
}

func (s *spoiler) operand(o *api.Operand) {
	numbered(s, &o.Kind)
	numbered(s, &o.Num)
	s.place(&o.Place)
}

func (s *spoiler) place(p *api.Place) {
	numbered(s, &p.Local)
	listed(s, &p.Path, func(step *int) { numbered(s, step) })
}
