package mirun

import (
	"patina/api"
	"patina/store"
)

// machine runs MIR that is right.
type machine struct {
	*store.Run
	fns       []api.MFn
	functions map[string]int   // their places, by name
	shapes    [][]*store.Shape // of each function's locals, once it was called
}

func newMachine(m api.Mir, in []byte, fuel int) *machine {
	x := &machine{store.New(m.Items, in, fuel), m.Fns, map[string]int{}, make([][]*store.Shape, len(m.Fns))}
	for k, f := range m.Fns {
		x.functions[f.Name] = k
	}
	return x
}

// shapesOf are the shapes of a function's locals.
func (m *machine) shapesOf(f int) []*store.Shape {
	if m.shapes[f] == nil {
		for _, l := range m.fns[f].Locals {
			m.shapes[f] = append(m.shapes[f], m.Shape(l.Type))
		}
	}
	return m.shapes[f]
}

// call is what a function answers to values.
func (m *machine) call(f int, args [][]store.Word) []store.Word {
	m.Enter(MaxCalls)
	c := &frame{m, m.fns[f].Blocks, m.shapesOf(f), make([]*store.Object, len(m.fns[f].Locals))}
	for k, value := range args {
		c.objects[1+k] = store.NewObject(value)
	}
	told := c.walk()
	c.end()
	m.Leave()
	return told
}

// frame is what a call has.
type frame struct {
	*machine
	blocks  []api.MBlock
	shapes  []*store.Shape
	objects []*store.Object // of locals; none of one that lives and has not been asked for, as a function may have thousands
}

// walk goes from block to block, and tells what the call answers.
func (c *frame) walk() []store.Word {
	at := 0
	for {
		b := &c.blocks[at]
		for k := range b.Stmts {
			c.Step()
			c.statement(&b.Stmts[k])
		}
		c.Step()
		if b.Term.Kind == api.TReturn {
			return c.Use(c.local(0))
		}
		at = c.next(&b.Term)
	}
}

// end ends all objects of a call.
func (c *frame) end() {
	for _, o := range c.objects {
		if o != nil {
			o.End()
		}
	}
}

// local is the place of all of a local.
func (c *frame) local(k int) store.Place {
	if c.objects[k] == nil {
		c.objects[k] = store.NewObject(make([]store.Word, c.shapes[k].Words))
	}
	return store.Whole(c.objects[k], c.shapes[k])
}

// place is where a place of MIR is.
func (c *frame) place(p api.Place) store.Place {
	at := c.local(p.Local)
	for _, step := range p.Path {
		switch {
		case step >= 0:
			at = at.Part(step)
		case step == -1:
			at = c.FollowedAt(at)
		default:
			at = c.payload(at, -2-step)
		}
	}
	return at
}

// payload is the place of the payload of a variant, which must be the one that is there.
func (c *frame) payload(p store.Place, variant int) store.Place {
	if c.ReadWord(p.Pointer) != store.Number(variant) {
		c.Undefined()
	}
	return p.Part(variant)
}
