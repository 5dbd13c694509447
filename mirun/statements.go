package mirun

import (
	"patina/api"
	"patina/store"
)

func (c *frame) statement(s *api.MStmt) {
	switch s.Kind {
	case api.MSet:
		value := c.rvalue(&s.R)
		c.Write(c.place(s.Place), value)
	case api.MDrop:
		c.DropAt(c.place(s.Place))
	case api.MFree:
		p := c.place(s.Place)
		c.FollowedAt(p).To.End()
		p.Clear()
	case api.MDead:
		c.local(s.Place.Local).To.End()
	case api.MLive:
		c.local(s.Place.Local).To.End()
		c.objects[s.Place.Local] = nil // another one begins, where it is first asked for
	}
}

// operand is what an operand tells: new words, which whoever asks may keep.
func (c *frame) operand(o api.Operand) []store.Word {
	switch o.Kind {
	case api.OCopy, api.OMove: // as the place's type says
		return c.Use(c.place(o.Place))
	case api.ONum, api.OTruth:
		return []store.Word{store.Number(o.Num)}
	}
	return nil // OUnit
}

func (c *frame) operands(l []api.Operand) [][]store.Word {
	var values [][]store.Word
	for _, o := range l {
		values = append(values, c.operand(o))
	}
	return values
}

func (c *frame) rvalue(r *api.Rvalue) []store.Word {
	args := c.operands(r.Args)
	switch r.Kind {
	case api.RBin:
		return []store.Word{c.Calculate(r.Op, args[0][0], args[1][0])}
	case api.RNeg:
		return []store.Word{c.Negate(args[0][0])}
	case api.RNot:
		return []store.Word{store.Truth(!c.Holds(args[0][0]))}
	case api.RRef, api.RMut:
		p := c.place(r.Place)
		c.MustLive(p.To)
		return []store.Word{p.Pointer}
	case api.RBox:
		return []store.Word{store.Pointer{To: store.NewObject(args[0])}}
	case api.RMake:
		return joined(nil, args)
	case api.RPick:
		value := make([]store.Word, c.Shape(r.Name).Words)
		copy(value, joined([]store.Word{store.Number(r.Variant)}, args))
		return value
	case api.RTag:
		return []store.Word{c.ReadWord(c.place(r.Place).Pointer)}
	}
	return args[0] // RUse
}

// joined are values one behind the other, behind what is ahead of them.
func joined(ahead []store.Word, values [][]store.Word) []store.Word {
	for _, value := range values {
		ahead = append(ahead, value...)
	}
	return ahead
}
