package flow

import (
	"patina/api"
	"patina/mir"
)

// Look tells what is wrong first with a program and the number of a function.
func Look(m api.Mir, f int) api.Errno {
	if e := mir.Check(m); e != api.OK {
		return e
	}
	if f < 0 || f >= len(m.Fns) {
		return api.ErrNone
	}
	return api.OK
}

// LookAt tells what is wrong first with a program and the numbers of a point in it.
func LookAt(m api.Mir, f, block, i int) api.Errno {
	if e := Look(m, f); e != api.OK {
		return e
	}
	if block < 0 || block >= len(m.Fns[f].Blocks) || i < 0 || i > len(m.Fns[f].Blocks[block].Stmts) {
		return api.ErrNone
	}
	return api.OK
}

// DiagAt is an error at a point's place in the source.
func DiagAt(e api.Errno, b api.MBlock, i int) api.Diag {
	if i == len(b.Stmts) {
		return api.Diag{Code: e, From: b.Term.At, To: b.Term.Till}
	}
	return api.Diag{Code: e, From: b.Stmts[i].From, To: b.Stmts[i].To}
}
