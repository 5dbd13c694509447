package eval

// word is a number, a pointer, or nothing, which is nil.
type word any

type number int64

// pointer points to a word of an object, or behind its last one.
type pointer struct {
	to *object
	at int
}

// object is a variable, a temporary, or a block of the heap.
type object struct {
	words []word
	lives bool
}

// place is where a value of a type is.
type place struct {
	pointer
	shape *shape
}

// newObject is an object with a value, whose words it keeps.
func newObject(value []word) *object { return &object{words: value, lives: true} }

// wholeOf is the place of all that an object holds.
func wholeOf(o *object, s *shape) place { return place{pointer{o, 0}, s} }

// part is the place of a part of what is at a place.
func (p place) part(k int) place {
	of := p.shape.parts[k]
	return place{pointer{p.to, p.at + of.at}, of.shape}
}

// words are the words at a place, as far as its object has them: a place that was lent from something that was then overwritten may be wider.
func (p place) words() []word {
	all := p.to.words
	return all[min(p.at, len(all)):min(p.at+p.shape.words, len(all))]
}

func (m *machine) mustLive(o *object) {
	if !o.lives {
		m.undefined()
	}
}

// wordAt is the word to which a pointer points; nothing, too.
func (m *machine) wordAt(p pointer) word {
	m.mustLive(p.to)
	if p.at >= len(p.to.words) {
		m.undefined()
	}
	return p.to.words[p.at]
}

// readWord is that word, which must be something.
func (m *machine) readWord(p pointer) word {
	w := m.wordAt(p)
	if w == nil {
		m.undefined()
	}
	return w
}

func (m *machine) numberOf(w word) int64 {
	switch w := w.(type) {
	case number:
		return int64(w)
	}
	m.undefined()
	return 0
}

// follow is where a word points to, which must live.
func (m *machine) follow(w word) pointer {
	switch w := w.(type) {
	case pointer:
		m.mustLive(w.to)
		return w
	}
	m.undefined()
	return pointer{}
}

// followed is the place to which the pointer at a place points.
func (m *machine) followed(p place) place {
	return place{m.follow(m.readWord(p.pointer)), m.shapes.of(p.shape.behind)}
}

// use reads what is copied, and takes what is moved.
func (m *machine) use(p place) []word {
	value := m.read(p)
	if !p.shape.copied {
		clear(p.words())
	}
	return value
}

func (m *machine) read(p place) []word {
	m.mustLive(p.to)
	value := make([]word, p.shape.words)
	m.readInto(value, p)
	return value
}

// readInto reads what is at a place into nothings.
func (m *machine) readInto(value []word, p place) {
	switch p.shape.form {
	case structure:
		for k, f := range p.shape.parts {
			m.readInto(value[f.at:], p.part(k))
		}
	case choice:
		value[0] = m.readWord(p.pointer)
		if payload := p.part(m.variant(value[0], p.shape)); payload.shape != nil {
			m.readInto(value[1:], payload)
		}
	default:
		if p.shape.words > 0 {
			value[0] = m.readWord(p.pointer)
		}
	}
}

// variant is the number of the variant whose tag a word is.
func (m *machine) variant(tag word, s *shape) int {
	k := m.numberOf(tag)
	if k < 0 || k >= int64(len(s.parts)) {
		m.undefined()
	}
	return int(k)
}

func (m *machine) write(p place, value []word) {
	m.mustLive(p.to)
	if p.at+len(value) > len(p.to.words) {
		m.undefined()
	}
	copy(p.to.words[p.at:], value)
}
