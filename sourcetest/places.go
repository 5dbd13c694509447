package sourcetest

import (
	"slices"
	"strings"
)

// spot is a place that can be written: its text, its type, and whether it may be changed.
type spot struct {
	text, t string
	mut     bool
}

// spots are all places to which some steps lead from the variables that are seen.
func (m *Maker) spots() []spot {
	var l []spot
	var hidden []string
	for _, v := range slices.Backward(m.vars) {
		if !slices.Contains(hidden, v.Name) && (!slices.Contains(m.moved, v.Name) || m.one(20)) {
			l = append(l, spot{v.Name, v.Type, v.Mut})
		}
		hidden = append(hidden, v.Name)
	}
	from := 0
	for range 3 {
		end := len(l)
		for _, s := range l[from:end] {
			l = append(l, s.next()...)
		}
		from = end
	}
	return l
}

// next are the places one step behind a place.
func (s spot) next() []spot {
	var l []spot
	may, t := s.mut, s.t
	for first := true; ; first = false {
		inner := ""
		switch {
		case strings.HasPrefix(t, "&mut "):
			inner, may = t[5:], true
		case strings.HasPrefix(t, "&"):
			inner, may = t[1:], false
		case strings.HasPrefix(t, "Box<"):
			inner = t[4 : len(t)-1]
		}
		if inner == "" {
			break
		}
		t = inner
		if first {
			l = append(l, spot{"(*" + s.text + ")", t, may})
		}
	}
	for _, f := range structFields(t) {
		l = append(l, spot{s.text + "." + f.Name, f.Type, may})
	}
	return l
}

func (s spot) variable() string {
	return strings.TrimLeft(strings.FieldsFunc(s.text, func(r rune) bool { return r == '.' || r == ')' })[0], "(*")
}

// place is one of the places that fit, if there are any.
func (m *Maker) place(fits func(s spot) bool) (spot, bool) {
	l := slices.DeleteFunc(m.spots(), func(s spot) bool { return !fits(s) })
	if len(l) == 0 {
		return spot{}, false
	}
	return l[m.Choose(len(l))], true
}
