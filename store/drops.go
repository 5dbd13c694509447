package store

// due is a part of a drop that is still to be done: what is at a place is dropped, or, if it was, the block there ends.
type due struct {
	Place
	dropped bool
}

// DropAt drops what is at a place, and leaves nothing there.
func (r *Run) DropAt(p Place) {
	r.MustLive(p.To)
	r.drop(p)
	p.Clear()
}

// Drop drops a value of a shape.
func (r *Run) Drop(value []Word, s *Shape) { r.drop(Whole(NewObject(value), s)) }

// drop drops words as they are. It keeps a list of what is due, since Boxes may be nested as deep as a run has steps.
func (r *Run) drop(p Place) {
	list := needed(nil, p)
	for len(list) > 0 {
		d := list[len(list)-1]
		list = list[:len(list)-1]
		if d.dropped {
			d.To.End()
		} else {
			list = r.dropOne(list, d.Place)
		}
	}
}

// dropOne drops the outermost part of what is at a place, and appends what is within it to what is due, last what comes first.
func (r *Run) dropOne(list []due, p Place) []due {
	switch p.Shape.Form {
	case Structure:
		for k := len(p.Shape.Parts) - 1; k >= 0; k-- {
			list = needed(list, p.Part(k))
		}
	case Choice:
		if tag := r.wordAt(p.Pointer); tag != nil {
			list = needed(list, p.Part(r.variant(tag, p.Shape)))
		}
	case Box:
		if w := r.wordAt(p.Pointer); w != nil {
			block := r.Followed(w, p.Shape)
			r.Step()
			list = needed(append(list, due{block, true}), block)
		}
	}
	return list
}

// needed appends what is at a place to what is due, if a value there may own anything.
func needed(list []due, p Place) []due {
	if p.Shape == nil || !p.Shape.Owns {
		return list
	}
	return append(list, due{Place: p})
}
