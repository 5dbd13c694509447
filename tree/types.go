package tree

import (
	"strings"

	"patina/api"
)

// typeText is a type's text, which has no blanks but the one behind mut.
func typeText(nodes []api.Node, k int) string {
	var ahead, behind strings.Builder
	for {
		n := nodes[k]
		switch n.Kind {
		case api.KTyInt:
			ahead.WriteString("i64")
		case api.KTyBool:
			ahead.WriteString("bool")
		case api.KTyUnit:
			ahead.WriteString("()")
		case api.KTyName:
			ahead.WriteString(n.Name)
		case api.KTyMut:
			ahead.WriteString("&mut ")
		case api.KTyRef:
			ahead.WriteString("&")
		case api.KTyBox:
			ahead.WriteString("Box<")
			behind.WriteString(">")
		}
		if len(n.Kids) == 0 {
			return ahead.String() + behind.String()
		}
		k = n.Kids[0]
	}
}
