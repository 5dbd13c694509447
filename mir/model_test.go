package mir

import (
	"reflect"
	"slices"

	"patina/api"
	"patina/items"
	"patina/types"
)

// model holds a function to the chapter's rules, as they stand: each thing is put together anew from the fields that its Kind names, and must be the same then.
type model struct {
	it api.Items
	f  api.MFn
}

// modelRight tells whether MIR is right.
func modelRight(m api.Mir) bool {
	if items.Check(m.Items) != api.OK || len(m.Fns) != len(m.Items.Fns) {
		return false
	}
	for k, f := range m.Fns {
		of := m.Items.Fns[k]
		heads := []string{of.Ret}
		for _, p := range of.Params {
			heads = append(heads, p.Type)
		}
		if f.Name != of.Name || f.Params != len(of.Params) || len(f.Locals) < len(heads) || len(f.Locals) > 4096 || len(f.Blocks) < 1 || len(f.Blocks) > 1024 {
			return false
		}
		for i, l := range f.Locals {
			if i < len(heads) && l.Type != heads[i] || !types.Right(m.Items, l.Type) || len(l.Name) > 64 {
				return false
			}
		}
		if !(model{m.Items, f}).blocks() {
			return false
		}
	}
	return true
}

func (m model) blocks() bool {
	for _, b := range m.f.Blocks {
		if len(b.Stmts) > 20000 || !m.end(b.Term) {
			return false
		}
		for _, s := range b.Stmts {
			if !m.statement(s) {
				return false
			}
		}
	}
	return true
}

// same tells whether two things are the same, lists without an element being all alike.
func same(a, b any) bool { return reflect.DeepEqual(plain(a), plain(b)) }

// plain is a thing whose lists without an element are nil.
func plain(x any) any {
	v := reflect.New(reflect.TypeOf(x)).Elem()
	v.Set(reflect.ValueOf(x))
	return plainValue(v).Interface()
}

func plainValue(v reflect.Value) reflect.Value {
	switch v.Kind() {
	case reflect.Struct:
		c := reflect.New(v.Type()).Elem()
		for k := range v.NumField() {
			c.Field(k).Set(plainValue(v.Field(k)))
		}
		return c
	case reflect.Slice:
		if v.Len() == 0 {
			return reflect.Zero(v.Type())
		}
		c := reflect.MakeSlice(v.Type(), v.Len(), v.Len())
		for k := range v.Len() {
			c.Index(k).Set(plainValue(v.Index(k)))
		}
		return c
	}
	return v
}

func (m model) placeType(p api.Place) (string, bool) {
	if p.Local < 0 || p.Local >= len(m.f.Locals) {
		return "", false
	}
	s, e := types.At(m.it, m.f.Locals[p.Local].Type, p.Path)
	return s, e == api.OK
}

func (m model) operandType(o api.Operand) (string, bool) {
	switch o.Kind {
	case api.OCopy, api.OMove:
		s, is := m.placeType(o.Place)
		copied, _ := types.Copy(m.it, s)
		return s, is && copied == (o.Kind == api.OCopy) && same(o, api.Operand{Kind: o.Kind, Place: o.Place})
	case api.ONum:
		return "i64", same(o, api.Operand{Kind: o.Kind, Num: o.Num})
	case api.OTruth:
		return "bool", same(o, api.Operand{Kind: o.Kind, Num: o.Num}) && (o.Num == 0 || o.Num == 1)
	case api.OUnit:
		return "()", same(o, api.Operand{Kind: o.Kind})
	}
	return "", false
}

func (m model) operandTypes(l []api.Operand) ([]string, bool) {
	texts := []string{}
	for _, o := range l {
		s, is := m.operandType(o)
		if !is {
			return nil, false
		}
		texts = append(texts, s)
	}
	return texts, true
}

func hasReference(s string) bool { return s[0] == '&' }

// rvalueType is the type of an rvalue.
func (m model) rvalueType(r api.Rvalue) (string, bool) {
	args, fit := m.operandTypes(r.Args)
	if !fit {
		return "", false
	}
	is := func(want ...string) bool { return slices.Equal(args, want) }
	switch r.Kind {
	case api.RUse:
		return args1(args), len(args) == 1 && same(r, api.Rvalue{Kind: r.Kind, Args: r.Args})
	case api.RBin:
		numbers, truths := is("i64", "i64"), is("bool", "bool")
		told := map[string]string{"+": "i64", "-": "i64", "*": "i64", "/": "i64", "%": "i64", "<": "bool", "<=": "bool", ">": "bool", ">=": "bool", "==": "bool", "!=": "bool"}[r.Op]
		return told, told != "" && (numbers || truths && (r.Op == "==" || r.Op == "!=")) && same(r, api.Rvalue{Kind: r.Kind, Op: r.Op, Args: r.Args})
	case api.RNeg:
		return "i64", is("i64") && same(r, api.Rvalue{Kind: r.Kind, Args: r.Args})
	case api.RNot:
		return "bool", is("bool") && same(r, api.Rvalue{Kind: r.Kind, Args: r.Args})
	case api.RRef, api.RMut, api.RTag:
		s, place := m.placeType(r.Place)
		if !place || !same(r, api.Rvalue{Kind: r.Kind, Place: r.Place}) {
			return "", false
		}
		if r.Kind == api.RTag {
			_, enum := items.Enum(m.it, s)
			return "i64", enum
		}
		return map[int]string{api.RRef: "&", api.RMut: "&mut "}[r.Kind] + s, !hasReference(s)
	case api.RBox:
		return "Box<" + args1(args) + ">", len(args) == 1 && !hasReference(args[0]) && same(r, api.Rvalue{Kind: r.Kind, Args: r.Args})
	case api.RMake:
		x, there := items.Struct(m.it, r.Name)
		var want []string
		for _, f := range x.Fields {
			want = append(want, f.Type)
		}
		return r.Name, there && is(want...) && same(r, api.Rvalue{Kind: r.Kind, Name: r.Name, Args: r.Args})
	case api.RPick:
		x, there := items.Enum(m.it, r.Name)
		if !there || r.Variant < 0 || r.Variant >= len(x.Variants) || !same(r, api.Rvalue{Kind: r.Kind, Name: r.Name, Variant: r.Variant, Args: r.Args}) {
			return "", false
		}
		if payload := x.Variants[r.Variant].Type; payload != "" {
			return r.Name, is(payload)
		}
		return r.Name, is()
	}
	return "", false
}

func args1(l []string) string {
	if len(l) == 0 {
		return ""
	}
	return l[0]
}

func (m model) statement(s api.MStmt) bool {
	t, place := m.placeType(s.Place)
	if !place {
		return false
	}
	alone := same(s, api.MStmt{Kind: s.Kind, Place: s.Place, From: s.From, To: s.To})
	owns, _ := types.Owns(m.it, t)
	switch s.Kind {
	case api.MSet:
		told, right := m.rvalueType(s.R)
		return right && told == t
	case api.MDrop:
		return alone && owns
	case api.MFree:
		return alone && len(t) > 4 && t[:4] == "Box<"
	case api.MLive, api.MDead:
		return alone && len(s.Place.Path) == 0
	}
	return false
}

func (m model) end(t api.MTerm) bool {
	for _, to := range t.To {
		if to < 0 || to >= len(m.f.Blocks) {
			return false
		}
	}
	arg, argRight := m.operandType(t.Arg)
	is := func(x api.MTerm) bool {
		x.Kind, x.At, x.Till = t.Kind, t.At, t.Till
		return same(t, x)
	}
	switch t.Kind {
	case api.TGoto:
		return len(t.To) == 1 && is(api.MTerm{To: t.To})
	case api.TIf:
		return argRight && arg == "bool" && len(t.To) == 2 && is(api.MTerm{Arg: t.Arg, To: t.To})
	case api.TSwitch:
		rising := slices.IsSorted(t.Values) && len(slices.Compact(slices.Clone(t.Values))) == len(t.Values)
		return argRight && arg == "i64" && rising && len(t.To) == len(t.Values)+1 && is(api.MTerm{Arg: t.Arg, Values: t.Values, To: t.To})
	case api.TCall:
		return m.call(t) && len(t.To) == 1 && is(api.MTerm{Name: t.Name, Args: t.Args, Place: t.Place, To: t.To})
	case api.TReturn:
		return is(api.MTerm{})
	case api.TPanic:
		return is(api.MTerm{Code: t.Code}) && t.Code >= 101 && t.Code <= 103
	}
	return false
}

func (m model) call(t api.MTerm) bool {
	args, right := m.operandTypes(t.Args)
	told, place := m.placeType(t.Place)
	fns := append(slices.Clone(m.it.Fns), api.Fn{Name: "print", Params: []api.Field{{Type: "i64"}}, Ret: "()"}, api.Fn{Name: "read", Ret: "i64"})
	for _, f := range fns {
		var want []string
		for _, p := range f.Params {
			want = append(want, p.Type)
		}
		if f.Name == t.Name {
			return right && place && told == f.Ret && slices.Equal(args, want)
		}
	}
	return false
}
