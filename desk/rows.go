package desk

// row is a kind of command: the kinds of its words behind its own, the kind of any number of words behind these (or that there are none), and what it does: the line that it tells.
type row struct {
	kinds []int
	more  int
	do    func(d *desk, c *command) string
}

// rowsByWord are the commands by their words.
func rowsByWord() map[string]row {
	none, named, counted := []int{}, []int{nameWord}, []int{numberN}
	return map[string]row{
		sourceWord: {none, noWord, (*desk).takeSource},
		"input":    {none, numberN, (*desk).takeInput},
		"tokens":   {none, noWord, (*desk).tokens},
		"print":    {none, noWord, (*desk).print},
		"items":    {none, noWord, (*desk).items},
		"types":    {none, noWord, (*desk).types},
		"check":    {none, noWord, (*desk).check},
		"mir":      {named, noWord, (*desk).mir},
		"moves":    {named, noWord, (*desk).moves},
		"loans":    {named, noWord, (*desk).loans},
		"eval":     {counted, noWord, (*desk).eval},
		"call":     {[]int{nameWord, numberN}, numberZ, (*desk).call},
		"image":    {counted, noWord, (*desk).image},
		"place":    {counted, noWord, (*desk).place},
	}
}
