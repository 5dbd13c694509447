package tree

import (
	"strconv"
	"strings"

	"patina/api"
)

// What is printed is put together of parts: a string is a token, or nothing, if it is empty; an int is a node; and there are these.
type (
	each    []int // nodes, one behind the other
	list    []int // nodes with commas between
	payload []int // a node in parentheses, or nothing, if there is none
	operand int   // a node, in parentheses unless it is plain
	owner   int   // an operand that is plain as a KGet, too
)

// printer writes a right tree's tokens, with one blank between.
type printer struct {
	nodes []api.Node
	text  strings.Builder
}

func (p *printer) put(parts ...any) {
	for _, part := range parts {
		switch x := part.(type) {
		case string:
			p.token(x)
		case int:
			p.node(p.nodes[x])
		case each:
			for _, k := range x {
				p.put(k)
			}
		case list:
			for i, k := range x {
				if i > 0 {
					p.put(",")
				}
				p.put(k)
			}
		case payload:
			if len(x) > 0 {
				p.put("(", each(x), ")")
			}
		case operand:
			p.bracketed(int(x), aPlain)
		case owner:
			p.bracketed(int(x), aPlain|1<<api.KGet)
		}
	}
}

func (p *printer) token(s string) {
	if s != "" && p.text.Len() > 0 {
		p.text.WriteByte(' ')
	}
	p.text.WriteString(s)
}

// bracketed writes a node in parentheses, unless it is plain.
func (p *printer) bracketed(k int, plain group) {
	if plain.has(p.nodes[k].Kind) {
		p.put(k)
		return
	}
	p.put("(", k, ")")
}

func (p *printer) node(n api.Node) {
	switch kind := n.Kind; {
	case anExpr.has(kind):
		p.expr(n)
	case aStatement.has(kind):
		p.statement(n)
	case aType.has(kind):
		p.aType(n)
	case aPattern.has(kind):
		p.pattern(n)
	default:
		p.item(n)
	}
}

// item writes a crate, an item, or a part of one that has a name or an arrow.
func (p *printer) item(n api.Node) {
	switch n.Kind {
	case api.KCrate:
		p.put(each(n.Kids))
	case api.KFn:
		params, rest := cut(n.Kids, 2)
		p.put("fn", n.Name, "(", list(params), ")")
		if p.nodes[rest[0]].Kind != api.KTyUnit {
			p.put("->", rest[0])
		}
		p.put(rest[1])
	case api.KStruct:
		p.put("struct", n.Name, "{", list(n.Kids), "}")
	case api.KEnum:
		p.put("enum", n.Name, "{", list(n.Kids), "}")
	case api.KVariant:
		p.put(n.Name, payload(n.Kids))
	case api.KParam:
		p.put(mut(n))
		fallthrough
	case api.KField, api.KInit:
		p.put(n.Name, ":", n.Kids[0])
	case api.KArm:
		p.put(n.Kids[0], "=>", n.Kids[1])
	}
}

func (p *printer) aType(n api.Node) {
	switch n.Kind {
	case api.KTyInt:
		p.put("i64")
	case api.KTyBool:
		p.put("bool")
	case api.KTyUnit:
		p.put("(", ")")
	case api.KTyName:
		p.put(n.Name)
	case api.KTyRef:
		p.put("&", n.Kids[0])
	case api.KTyMut:
		p.put("&", "mut", n.Kids[0])
	case api.KTyBox:
		p.put("Box", "<", n.Kids[0], ">")
	}
}

func (p *printer) statement(n api.Node) {
	switch n.Kind {
	case api.KWhile:
		p.put("while", operand(n.Kids[0]), n.Kids[1])
		return // no ; comes behind it
	case api.KLet:
		p.let(n)
	case api.KSet:
		p.put(operand(n.Kids[0]), "=", operand(n.Kids[1]))
	case api.KBreak:
		p.put("break")
	case api.KNext:
		p.put("continue")
	case api.KReturn:
		p.put("return")
		fallthrough
	case api.KDo:
		p.put(each(n.Kids))
	}
	p.put(";")
}

func (p *printer) let(n api.Node) {
	p.put("let", mut(n), n.Name)
	types, value := cut(n.Kids, 1)
	if len(types) > 0 {
		p.put(":", each(types))
	}
	p.put("=", each(value))
}

func (p *printer) expr(n api.Node) {
	switch n.Kind {
	case api.KBlock:
		p.put("{", each(n.Kids), "}")
	case api.KNum:
		p.put(strconv.FormatInt(n.Num, 10))
	case api.KTruth:
		p.put(truth(n))
	case api.KNil:
		p.put("(", ")")
	case api.KVar:
		p.put(n.Name)
	case api.KCall:
		p.put(n.Name, "(", list(n.Kids), ")")
	case api.KMake:
		p.put(n.Name, "{", list(n.Kids), "}")
	case api.KPick:
		p.pick(n)
	case api.KBin:
		p.put(operand(n.Kids[0]), n.Name, operand(n.Kids[1]))
	case api.KNeg:
		p.put("-", operand(n.Kids[0]))
	case api.KNot:
		p.put("!", operand(n.Kids[0]))
	case api.KGet:
		p.put(owner(n.Kids[0]), ".", n.Name)
	case api.KStar:
		p.put("*", operand(n.Kids[0]))
	case api.KBorrow:
		p.put("&", mut(n), operand(n.Kids[0]))
	case api.KNew:
		p.put("Box", "::", "new", "(", n.Kids[0], ")")
	case api.KIf:
		p.put("if", operand(n.Kids[0]), n.Kids[1])
		if len(n.Kids) > 2 {
			p.put("else", n.Kids[2])
		}
	case api.KMatch:
		p.put("match", operand(n.Kids[0]), "{", list(n.Kids[1:]), "}")
	}
}

func (p *printer) pattern(n api.Node) {
	switch n.Kind {
	case api.KPAny:
		p.put("_")
	case api.KPVar:
		p.put(n.Name)
	case api.KPNum:
		if n.Num < 0 {
			p.put("-")
		}
		p.put(strings.TrimPrefix(strconv.FormatInt(n.Num, 10), "-"))
	case api.KPTruth:
		p.put(truth(n))
	case api.KPPick:
		p.pick(n)
	}
}

func (p *printer) pick(n api.Node) {
	enum, variant, _ := strings.Cut(n.Name, "::")
	p.put(enum, "::", variant, payload(n.Kids))
}

// mut is the word that a Num of 1 stands for.
func mut(n api.Node) string {
	if n.Num == 1 {
		return "mut"
	}
	return ""
}

func truth(n api.Node) string {
	if n.Num == 1 {
		return "true"
	}
	return "false"
}
