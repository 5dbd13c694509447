package mirtest

import (
	"slices"

	"patina/api"
	"patina/lookup"
	"patina/types"
)

// statement is a statement; false: there is none of the kind that was chosen.
func (m *Maker) statement() (api.MStmt, bool) {
	kind := api.MSet
	if !m.Copied {
		kind = []int{api.MSet, api.MSet, api.MSet, api.MSet, api.MSet, api.MSet, api.MDrop, api.MLive, api.MDead, api.MFree}[m.Choose(10)]
	}
	if m.Plain && kind != api.MSet {
		kind = api.MDrop
	}
	s, there := m.spot(func(s spot) bool {
		switch kind {
		case api.MDrop:
			return m.types.Owns(s.t) && !(m.Plain && slices.Contains(s.place.Path, -1))
		case api.MFree:
			return lookup.IsBox(s.t)
		case api.MLive, api.MDead:
			return len(s.place.Path) == 0
		}
		return !m.Copied || m.types.Copied(s.t)
	})
	if !there || kind != api.MSet {
		return api.MStmt{Kind: kind, Place: s.place}, there
	}
	r, made := m.rvalue(s.t)
	return api.MStmt{Kind: kind, Place: s.place, R: r}, made
}

// operand is an operand of a type, if there is one.
func (m *Maker) operand(t string) (api.Operand, bool) {
	s, there := m.spotOf(t)
	switch {
	case there && (!isConstant(t) || m.one(2)):
		return m.use(s), true
	case isConstant(t):
		return m.constant(t), true
	}
	return api.Operand{}, false
}

// use is the operand that a place is.
func (m *Maker) use(s spot) api.Operand {
	if m.types.Copied(s.t) {
		return api.Operand{Kind: api.OCopy, Place: s.place}
	}
	return api.Operand{Kind: api.OMove, Place: s.place}
}

func isConstant(t string) bool { return t == lookup.Number || t == lookup.Truth || t == lookup.Unit }

func (m *Maker) constant(t string) api.Operand {
	switch t {
	case lookup.Number:
		return api.Operand{Kind: api.ONum, Num: []int64{0, 1, 2, 3, -1, 7, 1<<63 - 1, -1 << 63}[m.Choose(8)]}
	case lookup.Truth:
		return api.Operand{Kind: api.OTruth, Num: int64(m.Choose(2))}
	}
	return api.Operand{Kind: api.OUnit}
}

// operands are operands of these types, if there are any.
func (m *Maker) operands(want ...string) ([]api.Operand, bool) {
	var l []api.Operand
	for _, t := range want {
		o, there := m.operand(t)
		if !there {
			return nil, false
		}
		l = append(l, o)
	}
	return l, true
}

// rvalue is an rvalue of a type, if one was found.
func (m *Maker) rvalue(t string) (api.Rvalue, bool) {
	if m.one(4) {
		args, there := m.operands(t)
		return api.Rvalue{Kind: api.RUse, Args: args}, there
	}
	inner, points := types.Inner(t)
	ref, mut := types.Ref(t)
	switch {
	case ref:
		kind := api.RRef
		if mut {
			kind = api.RMut
		}
		s, there := m.spotOf(inner)
		return api.Rvalue{Kind: kind, Place: s.place}, there
	case points:
		args, there := m.operands(inner)
		return api.Rvalue{Kind: api.RBox, Args: args}, there
	case t == lookup.Number:
		return m.number()
	case t == lookup.Truth:
		return m.truth()
	case t == lookup.Unit:
		return api.Rvalue{Kind: api.RUse, Args: []api.Operand{{Kind: api.OUnit}}}, true
	}
	return m.named(t)
}

func (m *Maker) number() (api.Rvalue, bool) {
	s, there := m.spot(func(s spot) bool {
		_, enum := m.types.Variants(s.t)
		return enum
	})
	switch {
	case there && m.one(3):
		return api.Rvalue{Kind: api.RTag, Place: s.place}, true
	case m.one(3):
		args, _ := m.operands(lookup.Number)
		return api.Rvalue{Kind: api.RNeg, Args: args}, true
	}
	args, _ := m.operands(lookup.Number, lookup.Number)
	return api.Rvalue{Kind: api.RBin, Op: []string{"+", "-", "*", "/", "%"}[m.Choose(5)], Args: args}, true
}

func (m *Maker) truth() (api.Rvalue, bool) {
	switch m.Choose(3) {
	case 0:
		args, _ := m.operands(lookup.Truth)
		return api.Rvalue{Kind: api.RNot, Args: args}, true
	case 1:
		args, _ := m.operands(lookup.Truth, lookup.Truth)
		return api.Rvalue{Kind: api.RBin, Op: []string{"==", "!="}[m.Choose(2)], Args: args}, true
	}
	args, _ := m.operands(lookup.Number, lookup.Number)
	return api.Rvalue{Kind: api.RBin, Op: []string{"<", "<=", ">", ">=", "==", "!="}[m.Choose(6)], Args: args}, true
}

// named is a struct or a variant.
func (m *Maker) named(t string) (api.Rvalue, bool) {
	if parts, is := m.types.Fields(t); is {
		args, there := m.operands(typesOf(parts)...)
		return api.Rvalue{Kind: api.RMake, Name: t, Args: args}, there
	}
	variants, _ := m.types.Variants(t)
	k := m.Choose(len(variants))
	if variants[k].Type == "" {
		return api.Rvalue{Kind: api.RPick, Name: t, Variant: k}, true
	}
	args, there := m.operands(variants[k].Type)
	return api.Rvalue{Kind: api.RPick, Name: t, Variant: k, Args: args}, there
}

func typesOf(fields []api.Field) []string {
	var l []string
	for _, f := range fields {
		l = append(l, f.Type)
	}
	return l
}

// end is a block's end.
func (m *Maker) end() api.MTerm {
	to := func(count int) []int {
		var l []int
		for range count {
			l = append(l, m.block())
		}
		return l
	}
	if m.Onward && m.at == len(m.f.Blocks)-1 {
		return api.MTerm{Kind: api.TReturn}
	}
	switch m.Choose(8) {
	case 0, 1:
		arg, _ := m.operand(lookup.Truth)
		return api.MTerm{Kind: api.TIf, Arg: arg, To: to(2)}
	case 2:
		arg, _ := m.operand(lookup.Number)
		values := []int64{-1, 0, 1, 2}[m.Choose(4):]
		return api.MTerm{Kind: api.TSwitch, Arg: arg, Values: slices.Clone(values), To: to(len(values) + 1)}
	case 3, 4, 5:
		if t, there := m.callOf(); there {
			t.To = to(1)
			return t
		}
	case 6:
		if m.one(4) {
			return api.MTerm{Kind: api.TPanic, Code: api.ExitOverflow + m.Choose(3)}
		}
		return api.MTerm{Kind: api.TReturn}
	}
	return api.MTerm{Kind: api.TGoto, To: to(1)}
}

// block is a block to which an end leads.
func (m *Maker) block() int {
	if left := len(m.f.Blocks) - 1 - m.at; m.Onward && left > 0 && !m.one(12) {
		return m.at + 1 + m.Choose(left)
	}
	return m.Choose(len(m.f.Blocks))
}

func (m *Maker) callOf() (api.MTerm, bool) {
	f := api.Fn{Name: "print", Params: fields(lookup.Number), Ret: lookup.Unit}
	switch m.Choose(4) {
	case 0:
		f = api.Fn{Name: "read", Ret: lookup.Number}
	case 1, 2:
		f = m.items.Fns[m.Choose(len(m.items.Fns))]
	}
	s, there := m.spotOf(f.Ret)
	args, made := m.operands(typesOf(f.Params)...)
	return api.MTerm{Kind: api.TCall, Name: f.Name, Args: args, Place: s.place}, there && made
}
