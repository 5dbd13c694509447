// Package store is no layer: it is what both semantics of a program share, that of its tree (see shared/doc/18-eval.md) and that of its MIR (21-mirun.md): objects of words, values that are read, taken, written and dropped, and a run's fuel, input, output and end.
package store

import (
	"strconv"

	"patina/api"
)

// Run is a program's run.
type Run struct {
	shapes shapes
	in     []byte // what is not read yet
	fuel   int
	calls  int // that are in one another
	so     api.Outcome
	ended  bool
}

// New is a run of a program with such items, which are right, at its beginning.
func New(it api.Items, in []byte, fuel int) *Run {
	return &Run{shapes: shapes{it, map[string]*Shape{}}, in: in, fuel: fuel}
}

// Do is what a walk does, and the number that it tells, if it comes back with one. What ends the run ahead of that is a panic, which is caught here.
func (r *Run) Do(walk func() []Word) (told int64, o api.Outcome) {
	defer func() {
		if r.ended {
			recover()
			told, o = 0, r.so
		}
	}()
	if value := walk(); len(value) > 0 {
		told = r.NumberOf(value[0])
	}
	r.so.End, r.so.Code = api.EndDone, api.ExitDone
	return told, r.so
}

func (r *Run) end(end, code int) {
	r.so.End, r.so.Code, r.ended = end, code, true
	panic(end)
}

// Exit ends the run with a code.
func (r *Run) Exit(code int) { r.end(api.EndDone, code) }

// Undefined ends the run where something is undefined.
func (r *Run) Undefined() { r.end(api.EndUndef, 0) }

func (r *Run) outOfFuel() { r.end(api.EndFuel, 0) }

// Step takes a step, if there is fuel for it.
func (r *Run) Step() {
	if r.so.Steps >= r.fuel {
		r.outOfFuel()
	}
	r.so.Steps++
}

// Enter begins a call, if there are fewer in one another than there may be.
func (r *Run) Enter(most int) {
	if r.calls >= most {
		r.outOfFuel()
	}
	r.calls++
}

// Leave ends the innermost call.
func (r *Run) Leave() { r.calls-- }

// Print writes a number's digits and a byte 10.
func (r *Run) Print(w Word) {
	r.so.Out = append(strconv.AppendInt(r.so.Out, r.NumberOf(w), 10), '\n')
}

// NextByte is the next byte of the input; -1: there is none.
func (r *Run) NextByte() Word {
	if len(r.in) == 0 {
		return Number(-1)
	}
	b := r.in[0]
	r.in = r.in[1:]
	return Number(b)
}
