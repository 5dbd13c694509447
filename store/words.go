package store

// Word is a number, a pointer, or nothing, which is nil.
type Word any

// Number is a word that is a number, or a truth.
type Number int64

// Pointer is a word that points to a word of an object, or behind its last one.
type Pointer struct {
	To *Object
	At int
}

// Object is a variable, a temporary, or a block of the heap.
type Object struct {
	words []Word
	lives bool
}

// Place is where a value of a type is.
type Place struct {
	Pointer
	Shape *Shape
}

// NewObject is an object with a value, whose words it keeps.
func NewObject(value []Word) *Object { return &Object{words: value, lives: true} }

// End ends an object.
func (o *Object) End() { o.lives = false }

// Whole is the place of all that an object holds.
func Whole(o *Object, s *Shape) Place { return Place{Pointer{o, 0}, s} }

// Part is the place of a part of what is at a place.
func (p Place) Part(k int) Place {
	of := p.Shape.Parts[k]
	return Place{Pointer{p.To, p.At + of.At}, of.Shape}
}

// Clear leaves nothing at a place.
func (p Place) Clear() { clear(p.words()) }

// words are the words at a place, as far as its object has them: a place that was lent from something that was then overwritten may be wider.
func (p Place) words() []Word {
	all := p.To.words
	return all[min(p.At, len(all)):min(p.At+p.Shape.Words, len(all))]
}

// Truth is a truth as a word.
func Truth(holds bool) Number {
	if holds {
		return 1
	}
	return 0
}

// MustLive looks that an object lives.
func (r *Run) MustLive(o *Object) {
	if !o.lives {
		r.Undefined()
	}
}

// wordAt is the word to which a pointer points; nothing, too.
func (r *Run) wordAt(p Pointer) Word {
	r.MustLive(p.To)
	if p.At >= len(p.To.words) {
		r.Undefined()
	}
	return p.To.words[p.At]
}

// ReadWord is the word to which a pointer points, which must be something.
func (r *Run) ReadWord(p Pointer) Word {
	w := r.wordAt(p)
	if w == nil {
		r.Undefined()
	}
	return w
}

// NumberOf is the number that a word must be.
func (r *Run) NumberOf(w Word) int64 {
	switch w := w.(type) {
	case Number:
		return int64(w)
	}
	r.Undefined()
	return 0
}

// Follow is where a word points to, which must live.
func (r *Run) Follow(w Word) Pointer {
	switch w := w.(type) {
	case Pointer:
		r.MustLive(w.To)
		return w
	}
	r.Undefined()
	return Pointer{}
}

// Followed is the place to which a word of a shape points.
func (r *Run) Followed(w Word, s *Shape) Place { return Place{r.Follow(w), r.pointee(s)} }

// FollowedAt is the place to which the pointer at a place points.
func (r *Run) FollowedAt(p Place) Place { return r.Followed(r.ReadWord(p.Pointer), p.Shape) }

// Use reads what is copied, and takes what is moved: new words, which whoever asks may keep.
func (r *Run) Use(p Place) []Word {
	r.MustLive(p.To)
	value := make([]Word, p.Shape.Words)
	r.readInto(value, p)
	if !p.Shape.Copied {
		p.Clear()
	}
	return value
}

// readInto reads what is at a place into nothings.
func (r *Run) readInto(value []Word, p Place) {
	switch p.Shape.Form {
	case Structure:
		for k, f := range p.Shape.Parts {
			r.readInto(value[f.At:], p.Part(k))
		}
	case Choice:
		value[0] = r.ReadWord(p.Pointer)
		if payload := p.Part(r.variant(value[0], p.Shape)); payload.Shape != nil {
			r.readInto(value[1:], payload)
		}
	default:
		if p.Shape.Words > 0 {
			value[0] = r.ReadWord(p.Pointer)
		}
	}
}

// variant is the number of the variant whose tag a word is.
func (r *Run) variant(tag Word, s *Shape) int {
	k := r.NumberOf(tag)
	if k < 0 || k >= int64(len(s.Parts)) {
		r.Undefined()
	}
	return int(k)
}

// Write lets a value stand at a place.
func (r *Run) Write(p Place, value []Word) {
	r.MustLive(p.To)
	if p.At+len(value) > len(p.To.words) {
		r.Undefined()
	}
	copy(p.To.words[p.At:], value)
}
