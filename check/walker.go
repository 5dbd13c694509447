package check

import (
	"slices"

	"patina/api"
	"patina/items"
	"patina/types"
)

// Types that the checker has names for.
const (
	number = "i64"
	truth  = "bool"
	unit   = "()"
	never  = "!"
)

// fault is what does not fit, and the node that is named: walks give up with it by a panic.
type fault struct {
	code api.Errno
	node int
}

// walker walks one function, and notes in the typed tree what it learns.
type walker struct {
	typed  *api.Typed
	result string // the function's
	locals []api.Local
	seen   []int // the variables of all scopes that are open, the innermost scope's last
	loops  int   // in how many loops' blocks the walk is
}

// typed is the typed tree of a tree, which its Tree shares, or what is wrong first.
func typed(t api.Tree) (x api.Typed, d api.Diag) {
	it, d := items.Of(t)
	if d.Code != api.OK {
		return api.Typed{}, d
	}
	defer func() {
		switch f := recover().(type) {
		case nil:
		case fault:
			x, d = api.Typed{}, api.Diag{Code: f.code, From: t.Nodes[f.node].From, To: t.Nodes[f.node].To}
		default:
			panic(f)
		}
	}()
	x = api.Typed{Tree: t, Items: it, Types: make([]string, len(t.Nodes)), Vars: slices.Repeat([]int{-1}, len(t.Nodes))}
	for _, f := range it.Fns {
		w := walker{typed: &x, result: f.Ret}
		w.function(f)
		x.Locals = append(x.Locals, w.locals)
	}
	return x, api.Diag{}
}

// must gives up, unless something holds.
func (w *walker) must(holds bool, code api.Errno, n int) {
	if !holds {
		panic(fault{code, n})
	}
}

func (w *walker) node(n int) api.Node { return w.typed.Tree.Nodes[n] }

func (w *walker) function(f api.Fn) {
	kids := w.node(f.Node).Kids
	for k, p := range f.Params {
		w.declare(kids[k], api.Local{Name: p.Name, Type: p.Type, Mut: f.Muts[k]})
	}
	body := kids[len(kids)-1]
	w.expr(body)
	w.fit(body, f.Ret)
}

// declare makes a variable of the innermost scope, which a node names.
func (w *walker) declare(n int, v api.Local) {
	w.must(len(w.locals) < api.MaxLocals, api.ErrLong, n)
	w.typed.Vars[n] = len(w.locals)
	w.seen = append(w.seen, len(w.locals))
	w.locals = append(w.locals, v)
}

// variable is the type of the variable that a node names.
func (w *walker) variable(n int) string {
	name := w.node(n).Name
	for _, v := range slices.Backward(w.seen) {
		if w.locals[v].Name == name {
			w.typed.Vars[n] = v
			return w.locals[v].Type
		}
	}
	panic(fault{api.ErrVar, n})
}

// scope walks something in a scope of its own.
func (w *walker) scope(walk func()) {
	outer := len(w.seen)
	walk()
	w.seen = w.seen[:outer]
}

// operand walks an expression that must tell something.
func (w *walker) operand(n int) string {
	t := w.expr(n)
	w.must(t != never, api.ErrType, n)
	return t
}

// expect walks an operand that must be of a type.
func (w *walker) expect(n int, want string) {
	w.must(w.operand(n) == want, api.ErrType, n)
}

// fit looks whether what was walked is of a type, or tells nothing ever.
func (w *walker) fit(n int, want string) {
	w.must(types.Fits(w.typed.Types[n], want), api.ErrType, n)
}
