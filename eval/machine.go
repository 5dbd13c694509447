package eval

import "patina/api"

// way is how a walk is left ahead of its end: by a panic, which is caught where the way leads to.
type way int

const (
	stays    way = iota
	byEnd        // of the run, to the face
	byReturn     // to the call
	byBreak      // to the loop, as by the one below
	byNext
)

// machine runs a typed tree.
type machine struct {
	tree      api.Tree
	vars      []int // of each node its variable
	locals    [][]api.Local
	fns       []api.Fn
	functions map[string]int // their places, by name
	shapes    shapes
	ofNodes   []*shape // of expressions and patterns; none of those that tell nothing ever

	in    []byte // what is not read yet
	fuel  int
	steps int
	out   []byte
	end   int
	code  int

	calls   int       // that are in one another
	frame   []*object // the variables of the innermost one
	begun   []place   // the variables and temporaries of all scopes, the innermost scope's last
	leaving way       // how the walk is being left, so that a panic is caught by none but its own catcher
	told    []word    // by the return that leaves a call
}

func newMachine(t api.Typed, in []byte, fuel int) *machine {
	m := &machine{tree: t.Tree, vars: t.Vars, locals: t.Locals, fns: t.Items.Fns, functions: map[string]int{}, in: in, fuel: fuel}
	for k, f := range t.Items.Fns {
		m.functions[f.Name] = k
	}
	m.shapes = shapes{t.Items, map[string]*shape{}}
	m.ofNodes = make([]*shape, len(t.Types))
	for n, text := range t.Types {
		if text != "" && text != neverType {
			m.ofNodes[n] = m.shapes.of(text)
		}
	}
	return m
}

// run is what a walk does, and the number that it tells, if it comes back with one.
func (m *machine) run(walk func() []word) (told int64, o api.Outcome) {
	defer func() {
		if m.leaving == byEnd {
			recover()
			told, o = 0, m.outcome()
		}
	}()
	m.end, m.code = api.EndDone, api.ExitDone
	if value := walk(); len(value) > 0 {
		told = m.numberOf(value[0])
	}
	return told, m.outcome()
}

func (m *machine) outcome() api.Outcome {
	return api.Outcome{End: m.end, Code: m.code, Out: m.out, Steps: m.steps}
}

// leaveBy gives the walk up, to where it is caught.
func (m *machine) leaveBy(w way) {
	m.leaving = w
	panic(w)
}

func (m *machine) ends(end, code int) {
	m.end, m.code = end, code
	m.leaveBy(byEnd)
}

func (m *machine) exit(code int) { m.ends(api.EndDone, code) }

func (m *machine) undefined() { m.ends(api.EndUndef, 0) }

func (m *machine) outOfFuel() { m.ends(api.EndFuel, 0) }

func (m *machine) step() {
	if m.steps >= m.fuel {
		m.outOfFuel()
	}
	m.steps++
}

func (m *machine) node(n int) *api.Node { return &m.tree.Nodes[n] }

// call is what a function tells of values.
func (m *machine) call(f int, args [][]word) []word {
	if m.calls >= MaxCalls {
		m.outOfFuel()
	}
	outer, begun := m.frame, len(m.begun)
	m.calls++
	m.frame = make([]*object, len(m.locals[f]))
	for v, value := range args {
		m.begin(v, m.shapes.of(m.locals[f][v].Type), value)
	}
	kids := m.node(m.fns[f].Node).Kids
	told := m.body(kids[len(kids)-1])
	m.endScope(begun)
	m.frame = outer
	m.calls--
	return told
}

// body is what a function's body tells, or a return in it.
func (m *machine) body(n int) (told []word) {
	defer func() {
		if m.leaving == byReturn {
			recover()
			told, m.leaving = m.told, stays
		}
	}()
	return m.value(n)
}

// begin makes a variable of the innermost scope.
func (m *machine) begin(v int, s *shape, value []word) {
	m.frame[v] = newObject(value)
	m.begun = append(m.begun, wholeOf(m.frame[v], s))
}

// endScope ends what began since so many were there: of what was left by a return or such, the scopes within, too.
func (m *machine) endScope(begun int) {
	for len(m.begun) > begun {
		last := m.begun[len(m.begun)-1]
		m.begun = m.begun[:len(m.begun)-1]
		m.dropAt(last)
		last.to.lives = false
	}
}
