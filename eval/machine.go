package eval

import (
	"patina/api"
	"patina/store"
)

// neverType is that of expressions that never tell anything.
const neverType = "!"

// way is how a walk is left ahead of its end: by a panic, which is caught where the way leads to.
type way int

const (
	stays    way = iota
	byReturn     // to the call
	byBreak      // to the loop, as by the one below
	byNext
)

// machine runs a typed tree.
type machine struct {
	*store.Run
	tree      api.Tree
	vars      []int // of each node its variable
	locals    [][]api.Local
	fns       []api.Fn
	functions map[string]int // their places, by name
	ofNodes   []*store.Shape // of expressions and patterns; none of those that tell nothing ever

	frame   []*store.Object // the variables of the innermost call
	begun   []store.Place   // the variables and temporaries of all scopes, the innermost scope's last
	leaving way             // how the walk is being left, so that a panic is caught by none but its own catcher
	told    []store.Word    // by the return that leaves a call
}

func newMachine(t api.Typed, in []byte, fuel int) *machine {
	m := &machine{Run: store.New(t.Items, in, fuel), tree: t.Tree, vars: t.Vars, locals: t.Locals, fns: t.Items.Fns, functions: map[string]int{}}
	for k, f := range t.Items.Fns {
		m.functions[f.Name] = k
	}
	m.ofNodes = make([]*store.Shape, len(t.Types))
	for n, text := range t.Types {
		if text != "" && text != neverType {
			m.ofNodes[n] = m.Shape(text)
		}
	}
	return m
}

// leaveBy gives the walk up, to where it is caught.
func (m *machine) leaveBy(w way) {
	m.leaving = w
	panic(w)
}

func (m *machine) node(n int) *api.Node { return &m.tree.Nodes[n] }

// call is what a function tells of values.
func (m *machine) call(f int, args [][]store.Word) []store.Word {
	m.Enter(MaxCalls)
	outer, begun := m.frame, len(m.begun)
	m.frame = make([]*store.Object, len(m.locals[f]))
	for v, value := range args {
		m.begin(v, m.Shape(m.locals[f][v].Type), value)
	}
	kids := m.node(m.fns[f].Node).Kids
	told := m.body(kids[len(kids)-1])
	m.endScope(begun)
	m.frame = outer
	m.Leave()
	return told
}

// body is what a function's body tells, or a return in it.
func (m *machine) body(n int) (told []store.Word) {
	defer func() {
		if m.leaving == byReturn {
			recover()
			told, m.leaving = m.told, stays
		}
	}()
	return m.value(n)
}

// begin makes a variable of the innermost scope.
func (m *machine) begin(v int, s *store.Shape, value []store.Word) {
	m.frame[v] = store.NewObject(value)
	m.begun = append(m.begun, store.Whole(m.frame[v], s))
}

// endScope ends what began since so many were there: of what was left by a return or such, the scopes within, too.
func (m *machine) endScope(begun int) {
	for len(m.begun) > begun {
		last := m.begun[len(m.begun)-1]
		m.begun = m.begun[:len(m.begun)-1]
		m.DropAt(last)
		last.To.End()
	}
}
