package mirun

import (
	"slices"

	"patina/api"
	"patina/store"
)

// next is the block to which an end leads that is no return.
func (c *frame) next(t *api.MTerm) int {
	switch t.Kind {
	case api.TIf:
		if !c.Holds(c.operand(t.Arg)[0]) {
			return t.To[1]
		}
	case api.TSwitch:
		return t.To[chosen(t.Values, c.operand(t.Arg)[0])]
	case api.TCall:
		value := c.answer(t.Name, c.operands(t.Args))
		c.Write(c.place(t.Place), value)
	case api.TPanic:
		c.Exit(t.Code)
	}
	return t.To[0]
}

// chosen is the place of the number that a word is, or the one behind the last.
func chosen(numbers []int64, w store.Word) int {
	k := slices.IndexFunc(numbers, func(n int64) bool { return w == store.Number(n) })
	if k < 0 {
		return len(numbers)
	}
	return k
}

// answer is what a call answers, of a function or of what is built in.
func (c *frame) answer(name string, args [][]store.Word) []store.Word {
	switch name {
	case "print":
		c.Print(args[0][0])
		return nil
	case "read":
		return []store.Word{c.NextByte()}
	}
	return c.call(c.functions[name], args)
}
