package tree

import (
	"math"
	"regexp"
	"strings"

	"patina/api"
)

// row is a row of the chapter's table, as patterns: of the Name, of the Num, of the kids' letters.
type row struct {
	letter string // what the kind is in a row of kids
	name   string // no: empty; one: a name; two: names with :: ; sign
	num    string // no: 0; flag: 0 or 1; count: of kids p; from0; notLeast
	kids   string
	kids1  string // with a Num of 1, if that makes a difference
}

// rows is the table: of kids b is a block, i an if, e any other expression; s a statement, t a type, q a pattern.
var rows = map[int]row{
	api.KCrate:   {letter: "c", name: "no", num: "no", kids: "[FSE]*"},
	api.KFn:      {letter: "F", name: "one", num: "count", kids: "p*tb"},
	api.KStruct:  {letter: "S", name: "one", num: "no", kids: "f*"},
	api.KEnum:    {letter: "E", name: "one", num: "no", kids: "v*"},
	api.KField:   {letter: "f", name: "one", num: "no", kids: "t"},
	api.KVariant: {letter: "v", name: "one", num: "no", kids: "t?"},
	api.KParam:   {letter: "p", name: "one", num: "flag", kids: "t"},
	api.KTyInt:   {letter: "t", name: "no", num: "no"},
	api.KTyBool:  {letter: "t", name: "no", num: "no"},
	api.KTyUnit:  {letter: "t", name: "no", num: "no"},
	api.KTyName:  {letter: "t", name: "one", num: "no"},
	api.KTyRef:   {letter: "t", name: "no", num: "no", kids: "t"},
	api.KTyMut:   {letter: "t", name: "no", num: "no", kids: "t"},
	api.KTyBox:   {letter: "t", name: "no", num: "no", kids: "t"},
	api.KBlock:   {letter: "b", name: "no", num: "flag", kids: "s*", kids1: "s*[bei]"},
	api.KLet:     {letter: "s", name: "one", num: "flag", kids: "t?[bei]"},
	api.KDo:      {letter: "s", name: "no", num: "no", kids: "[bei]"},
	api.KSet:     {letter: "s", name: "no", num: "no", kids: "[bei][bei]"},
	api.KWhile:   {letter: "s", name: "no", num: "no", kids: "[bei]b"},
	api.KReturn:  {letter: "s", name: "no", num: "no", kids: "[bei]?"},
	api.KBreak:   {letter: "s", name: "no", num: "no"},
	api.KNext:    {letter: "s", name: "no", num: "no"},
	api.KNum:     {letter: "e", name: "no", num: "from0"},
	api.KTruth:   {letter: "e", name: "no", num: "flag"},
	api.KNil:     {letter: "e", name: "no", num: "no"},
	api.KVar:     {letter: "e", name: "one", num: "no"},
	api.KCall:    {letter: "e", name: "one", num: "no", kids: "[bei]*"},
	api.KMake:    {letter: "e", name: "one", num: "no", kids: "n*"},
	api.KInit:    {letter: "n", name: "one", num: "no", kids: "[bei]"},
	api.KPick:    {letter: "e", name: "two", num: "no", kids: "[bei]?"},
	api.KBin:     {letter: "e", name: "sign", num: "no", kids: "[bei][bei]"},
	api.KNeg:     {letter: "e", name: "no", num: "no", kids: "[bei]"},
	api.KNot:     {letter: "e", name: "no", num: "no", kids: "[bei]"},
	api.KGet:     {letter: "e", name: "one", num: "no", kids: "[bei]"},
	api.KStar:    {letter: "e", name: "no", num: "no", kids: "[bei]"},
	api.KBorrow:  {letter: "e", name: "no", num: "flag", kids: "[bei]"},
	api.KNew:     {letter: "e", name: "no", num: "no", kids: "[bei]"},
	api.KIf:      {letter: "i", name: "no", num: "no", kids: "[bei]b[bi]?"},
	api.KMatch:   {letter: "e", name: "no", num: "no", kids: "[bei]a*"},
	api.KArm:     {letter: "a", name: "no", num: "no", kids: "q[bei]"},
	api.KPAny:    {letter: "q", name: "no", num: "no"},
	api.KPVar:    {letter: "q", name: "one", num: "no"},
	api.KPNum:    {letter: "q", name: "no", num: "notLeast"},
	api.KPTruth:  {letter: "q", name: "no", num: "flag"},
	api.KPPick:   {letter: "q", name: "two", num: "no", kids: "q?"},
}

var (
	nameForm = regexp.MustCompile(`^[A-Za-z_][A-Za-z_0-9]{0,63}$`)
	keywords = regexp.MustCompile(`^(fn|struct|enum|let|mut|while|if|else|match|return|break|continue|true|false|i64|bool|Box|_)$`)
	signForm = regexp.MustCompile(`^(\|\||&&|==|!=|<|>|<=|>=|\+|-|\*|/|%)$`)
	kidForms = map[string]*regexp.Regexp{}
)

func modelName(s string) bool { return nameForm.MatchString(s) && !keywords.MatchString(s) }

func kidForm(s string) *regexp.Regexp {
	if kidForms[s] == nil {
		kidForms[s] = regexp.MustCompile("^(" + s + ")$")
	}
	return kidForms[s]
}

// modelNode tells whether a node is by its row, all kids being nodes.
func modelNode(nodes []api.Node, n api.Node) bool {
	r, ok := rows[n.Kind]
	if !ok || n.From < 0 || n.To < n.From {
		return false
	}
	letters := ""
	for _, k := range n.Kids {
		letters += rows[nodes[k].Kind].letter
		if rows[nodes[k].Kind].letter == "" {
			return false
		}
	}
	form := r.kids
	if r.kids1 != "" && n.Num == 1 {
		form = r.kids1
	}
	parts := strings.Split(n.Name, "::")
	names := map[string]bool{
		"no": n.Name == "", "one": modelName(n.Name), "sign": signForm.MatchString(n.Name),
		"two": len(parts) == 2 && modelName(parts[0]) && modelName(parts[len(parts)-1]),
	}
	nums := map[string]bool{
		"no": n.Num == 0, "flag": n.Num == 0 || n.Num == 1, "from0": n.Num >= 0, "notLeast": n.Num > math.MinInt64,
		"count": n.Num == int64(strings.Count(letters, "p")),
	}
	return names[r.name] && nums[r.num] && kidForm(form).MatchString(letters)
}

// modelRight tells whether a tree is right, by going down from its root.
func modelRight(t api.Tree) bool {
	if len(t.Nodes) == 0 || len(t.Nodes) > api.MaxNodes || t.Nodes[len(t.Nodes)-1].Kind != api.KCrate {
		return false
	}
	seen := map[int]bool{}
	var down func(k, depth int) bool
	down = func(k, depth int) bool {
		if seen[k] || depth > 4*api.MaxDeep {
			return false
		}
		seen[k] = true
		n := t.Nodes[k]
		for _, kid := range n.Kids {
			if kid < 0 || kid >= k || !down(kid, depth+1) {
				return false
			}
		}
		return modelNode(t.Nodes, n)
	}
	return down(len(t.Nodes)-1, 0) && len(seen) == len(t.Nodes)
}
