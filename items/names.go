package items

// names are places by their names.
type names struct {
	places map[string]int
}

// newNames are names of which some are taken, at no place.
func newNames(taken ...string) names {
	n := names{places: map[string]int{}}
	for _, name := range taken {
		n.add(name, -1)
	}
	return n
}

// add notes a name's place, and tells whether the name was free; else its first place stays.
func (n names) add(name string, place int) bool {
	if _, there := n.find(name); there {
		return false
	}
	n.places[name] = place
	return true
}

func (n names) find(name string) (int, bool) {
	place, there := n.places[name]
	return place, there
}
