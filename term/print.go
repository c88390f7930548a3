package term

import (
	"strings"

	"serinette/api"
	"serinette/ratio"
)

// printer gathers what is printed.
type printer struct{ strings.Builder }

// Print returns the definitions, each on a line.
func Print(defs []api.Def) (string, api.Errno) {
	if !areDefinitions(defs) {
		return "", api.ErrArg
	}
	var p printer
	for _, d := range defs {
		p.definition(d)
		p.WriteString("\n")
	}
	return p.String(), api.OK
}

// Show returns the text of t.
func Show(t api.Term) (string, api.Errno) {
	if !Valid(t) {
		return "", api.ErrArg
	}
	var p printer
	p.term(t)
	return p.String(), api.OK
}

// term prints a valid term.
func (p *printer) term(t api.Term) {
	switch t.Op {
	case "num":
		p.WriteString(ratio.Text(t.Num))
	case "name":
		p.WriteString(t.Text)
	case "text":
		p.WriteString(`"` + t.Text + `"`)
	case "wire":
		p.WriteString("_")
	case "cut":
		p.WriteString("!")
	case "op":
		sign, _ := signOf(t.Text)
		p.WriteString(sign)
	case "call":
		p.called(t.Kids[0])
		p.row("(", t.Kids[1:], ")")
	case "dot":
		p.called(t.Kids[0])
		p.WriteString("." + t.Text)
	case "list":
		p.row("[", t.Kids, "]")
	case "fun":
		p.WriteString(`\(` + strings.Join(t.Names, ", ") + ").")
		p.row("(", t.Kids, ")")
	case "iter":
		p.row(t.Text+"("+t.Names[0]+", ", t.Kids, ")")
	case "with":
		p.WriteString("(")
		p.term(t.Kids[0])
		p.braced(" with", t.Defs)
		p.WriteString(")")
	case "case", "env":
		p.braced(t.Op, t.Defs)
	default:
		p.joined(t)
	}
}

// joined prints two terms and the sign that joins them, in brackets.
func (p *printer) joined(t api.Term) {
	sign, _ := joining(t.Op)
	p.WriteString("(")
	p.term(t.Kids[0])
	p.WriteString(" " + sign + " ")
	p.term(t.Kids[1])
	p.WriteString(")")
}

// called prints what stands ahead of arguments, or of a dot.
func (p *printer) called(t api.Term) {
	switch t.Op {
	case "fun", "iter", "with", "case", "env":
		p.row("(", []api.Term{t}, ")")
	default:
		p.term(t)
	}
}

// row prints terms with commas between them.
func (p *printer) row(opening string, l []api.Term, closing string) {
	p.WriteString(opening)
	for i, t := range l {
		if i > 0 {
			p.WriteString(", ")
		}
		p.term(t)
	}
	p.WriteString(closing)
}

// braced prints definitions or rules in braces behind a word.
func (p *printer) braced(word string, defs []api.Def) {
	p.WriteString(word + " {")
	for _, d := range defs {
		p.WriteString(" ")
		p.definition(d)
	}
	p.WriteString(" }")
}

// definition prints a definition, or a rule.
func (p *printer) definition(d api.Def) {
	p.WriteString(d.Name)
	if len(d.Args) > 0 {
		p.row("(", d.Args, ")")
	}
	if d.Name == "" {
		p.WriteString(" => ")
	} else {
		p.WriteString(" = ")
	}
	p.term(d.Body)
	p.WriteString(";")
}
