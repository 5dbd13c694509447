package eval

// due is a part of a drop that is still to be done: what is at a place is dropped, or, if it was, the block there ends.
type due struct {
	place
	dropped bool
}

// dropAt drops what is at a place, and leaves nothing there.
func (m *machine) dropAt(p place) {
	m.mustLive(p.to)
	m.drop(p)
	clear(p.words())
}

// drop drops words as they are. It keeps a list of what is due, since Boxes may be nested as deep as a run has steps.
func (m *machine) drop(p place) {
	list := needed(nil, p)
	for len(list) > 0 {
		d := list[len(list)-1]
		list = list[:len(list)-1]
		if d.dropped {
			d.to.lives = false
		} else {
			list = m.dropOne(list, d.place)
		}
	}
}

// dropOne drops the outermost part of what is at a place, and appends what is within it to what is due, last what comes first.
func (m *machine) dropOne(list []due, p place) []due {
	switch p.shape.form {
	case structure:
		for k := len(p.shape.parts) - 1; k >= 0; k-- {
			list = needed(list, p.part(k))
		}
	case choice:
		if tag := m.wordAt(p.pointer); tag != nil {
			list = needed(list, p.part(m.variant(tag, p.shape)))
		}
	case box:
		if w := m.wordAt(p.pointer); w != nil {
			block := place{m.follow(w), m.shapes.of(p.shape.behind)}
			m.step()
			list = needed(append(list, due{block, true}), block)
		}
	}
	return list
}

// needed appends what is at a place to what is due, if a value there may own anything.
func needed(list []due, p place) []due {
	if p.shape == nil || !p.shape.owns {
		return list
	}
	return append(list, due{place: p})
}
