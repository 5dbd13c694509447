package mir

import (
	"strconv"
	"strings"

	"patina/api"
)

// functionText is the text of a function that is right.
func functionText(f api.MFn) string {
	var s strings.Builder
	line := func(parts ...string) { s.WriteString(strings.Join(parts, " ") + "\n") }
	line("fn", f.Name)
	for k, l := range f.Locals {
		line(strconv.Itoa(k)+":", l.Type)
	}
	for k, b := range f.Blocks {
		line("bb" + strconv.Itoa(k))
		for _, x := range b.Stmts {
			line(statementParts(x)...)
		}
		line(endParts(b.Term)...)
	}
	return s.String()
}

func statementParts(s api.MStmt) []string {
	word := "drop"
	switch s.Kind {
	case api.MSet:
		return append([]string{placeText(s.Place), "="}, rvalueParts(s.R)...)
	case api.MFree:
		word = "free"
	case api.MLive:
		word = "live"
	case api.MDead:
		word = "dead"
	}
	return []string{word, placeText(s.Place)}
}

func rvalueParts(r api.Rvalue) []string {
	args := operandTexts(r.Args)
	switch r.Kind {
	case api.RBin:
		return []string{args[0], r.Op, args[1]}
	case api.RNeg:
		return []string{"neg", args[0]}
	case api.RNot:
		return []string{"not", args[0]}
	case api.RRef:
		return []string{"ref", placeText(r.Place)}
	case api.RMut:
		return []string{"mut", placeText(r.Place)}
	case api.RBox:
		return []string{"box", args[0]}
	case api.RMake:
		return append([]string{"make", r.Name}, args...)
	case api.RPick:
		return append([]string{"pick", r.Name, strconv.Itoa(r.Variant)}, args...)
	case api.RTag:
		return []string{"tag", placeText(r.Place)}
	}
	return args // RUse
}

func operandTexts(l []api.Operand) []string {
	var texts []string
	for _, o := range l {
		texts = append(texts, operandText(o))
	}
	return texts
}

func operandText(o api.Operand) string {
	word := "copy "
	switch o.Kind {
	case api.OMove:
		word = "move "
		fallthrough
	case api.OCopy:
		return word + placeText(o.Place)
	case api.ONum:
		return strconv.FormatInt(o.Num, 10)
	case api.OTruth:
		return strconv.FormatBool(o.Num == 1)
	}
	return "()"
}

func placeText(p api.Place) string {
	var s strings.Builder
	s.WriteString("_" + strconv.Itoa(p.Local))
	for _, step := range p.Path {
		switch {
		case step >= 0:
			s.WriteString("." + strconv.Itoa(step))
		case step == -1:
			s.WriteString(".*")
		default:
			s.WriteString(".@" + strconv.Itoa(-2-step))
		}
	}
	return s.String()
}

func endParts(t api.MTerm) []string {
	switch t.Kind {
	case api.TGoto:
		return []string{"goto", strconv.Itoa(t.To[0])}
	case api.TIf:
		return []string{"if", operandText(t.Arg), strconv.Itoa(t.To[0]), strconv.Itoa(t.To[1])}
	case api.TSwitch:
		l := []string{"switch", operandText(t.Arg)}
		for k, v := range t.Values {
			l = append(l, strconv.FormatInt(v, 10), strconv.Itoa(t.To[k]))
		}
		return append(l, strconv.Itoa(t.To[len(t.Values)]))
	case api.TCall:
		l := append([]string{placeText(t.Place), "=", "call", t.Name}, operandTexts(t.Args)...)
		return append(l, "->", strconv.Itoa(t.To[0]))
	case api.TPanic:
		return []string{"panic", strconv.Itoa(t.Code)}
	}
	return []string{"return"}
}
