package moves

import (
	"patina/api"
	"patina/flow"
	"patina/types"
)

// firstWrong is the first wrong use of a function.
func firstWrong(f api.MFn) api.Diag {
	l := flow.New(f)
	for b, gone := range l.Rounds(l.Behind, flow.Set.Join) {
		for i, steps := range l.Steps[b] {
			for _, s := range steps {
				if e := wrong(l, gone, s); e != api.OK {
					return flow.DiagAt(e, f.Blocks[b], i)
				}
				l.Do(gone, s)
			}
		}
	}
	return api.Diag{}
}

// wrong tells what is wrong with a step.
func wrong(l *flow.Flow, gone flow.Set, s flow.Step) api.Errno {
	isWrong := false
	switch s.Kind {
	case flow.Moves:
		if isBehindReference(l.Fn, l.Places[s.Place]) {
			return api.ErrMoveOut
		}
		fallthrough
	case flow.Copies, flow.Lends, flow.LendsMut, flow.Asks, flow.Tells:
		isWrong = l.HasPart(gone, s.Place)
	case flow.Sets:
		isWrong = l.HasAround(gone, s.Place)
	}
	if isWrong {
		return api.ErrMoved
	}
	return api.OK
}

// isBehindReference tells whether a place's path follows a reference, which a local alone may be.
func isBehindReference(f api.MFn, p api.Place) bool {
	ref, _ := types.Ref(f.Locals[p.Local].Type)
	return ref && len(p.Path) > 0
}
