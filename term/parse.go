package term

import (
	"slices"

	"serinette/api"
	"serinette/ratio"
)

// malformed is what the parser panics with.
type malformed struct {
	place int
	err   api.Errno
}

// parser reads a source from the left, a token ahead.
type parser struct {
	source string
	now    token
}

// Parse reads a source.
func Parse(source string) (defs []api.Def, place int, err api.Errno) {
	defs, place, err = read(source, (*parser).definitions)
	if nodesOf(defs) > api.MaxTerm || depthOf(defs) > api.MaxNest {
		return nil, 0, api.ErrLimit
	}
	return defs, place, err
}

// Expr reads one expression.
func Expr(text string) (t api.Term, place int, err api.Errno) {
	t, place, err = read(text, (*parser).expression)
	if nodes(t) > api.MaxTerm || depth(t) > api.MaxNest {
		return api.Term{}, 0, api.ErrLimit
	}
	return t, place, err
}

// read returns what is read of a text, all of which it must be.
func read[T any](text string, what func(p *parser) T) (result T, place int, err api.Errno) {
	if len(text) > api.MaxText {
		return result, 0, api.ErrLimit
	}
	defer func() {
		if fault, ok := recover().(malformed); ok {
			place, err = fault.place, fault.err
		}
	}()
	p := &parser{source: text}
	p.next()
	all := what(p)
	if p.now.sort != end {
		refuse(p.now, api.ErrForm)
	}
	return all, 0, api.OK
}

// refuse reports an error that lies at a token.
func refuse(t token, err api.Errno) {
	panic(malformed{t.place, err})
}

// next passes the token.
func (p *parser) next() {
	p.now = tokenFrom(p.source, p.now.place+len(p.now.text))
}

// is tells whether the token is this sign or word.
func (p *parser) is(s string) bool {
	return p.now.sort == fixed && p.now.text == s
}

// accept passes this sign or word, if it is the token.
func (p *parser) accept(s string) bool {
	is := p.is(s)
	if is {
		p.next()
	}
	return is
}

// expect passes this sign or word, which must be the token.
func (p *parser) expect(s string) {
	if !p.accept(s) {
		refuse(p.now, api.ErrForm)
	}
}

// name reads a name.
func (p *parser) name() string {
	if p.now.sort != name {
		refuse(p.now, api.ErrForm)
	}
	s := p.now.text
	p.next()
	return s
}

// anotherName reads a name that is none of those ahead.
func (p *parser) anotherName(ahead []string) string {
	if p.now.sort == name && slices.Contains(ahead, p.now.text) {
		refuse(p.now, api.ErrTwice)
	}
	return p.name()
}

// listed reads one item or more, with commas between them, up to the sign that closes them. Each item is told those ahead of it.
func listed[T any](p *parser, closing string, item func(ahead []T) T) []T {
	var l []T
	for {
		l = append(l, item(l))
		if !p.accept(",") {
			p.expect(closing)
			return l
		}
	}
}

// definitions reads definitions as long as there are any.
func (p *parser) definitions() []api.Def {
	var defs []api.Def
	for p.now.sort == name {
		defs = append(defs, p.definition())
	}
	return defs
}

// definition reads a definition.
func (p *parser) definition() api.Def {
	d := api.Def{Name: p.name()}
	if p.accept("(") {
		d.Args = listed(p, ")", p.pattern)
	}
	p.expect("=")
	d.Body = p.expression()
	p.expect(";")
	return d
}

// pattern reads a number, or a name that is none of those ahead.
func (p *parser) pattern(ahead []api.Term) api.Term {
	p.takeMinus()
	if p.now.sort == number {
		return p.number()
	}
	return api.Term{Op: "name", Text: p.anotherName(patternNames(ahead))}
}

// patternNames returns the names that patterns bind.
func patternNames(patterns []api.Term) []string {
	var names []string
	for _, pattern := range patterns {
		if pattern.Op == "name" {
			names = append(names, pattern.Text)
		}
	}
	return names
}

// takeMinus makes a minus right ahead of a digit part of the number. It is called where a number may stand; elsewhere the minus is a sign.
func (p *parser) takeMinus() {
	behind := p.source[p.now.place+len(p.now.text):]
	if p.is("-") && behind != "" && isDigit(behind[0]) {
		p.now = token{number, "-" + behind[:numberLength(behind)], p.now.place}
	}
}

// number reads a number.
func (p *parser) number() api.Term {
	q, err := ratio.Parse(p.now.text)
	if err != api.OK {
		refuse(p.now, api.ErrForm)
	}
	p.next()
	return api.Term{Op: "num", Num: q}
}

// expression reads an expression.
func (p *parser) expression() api.Term {
	return p.withs(p.joined(1, true))
}

// argument reads an expression without commas outside of brackets.
func (p *parser) argument() api.Term {
	return p.withs(p.joined(1, false))
}

// arguments reads arguments up to the sign that closes them.
func (p *parser) arguments(closing string) []api.Term {
	return listed(p, closing, func([]api.Term) api.Term { return p.argument() })
}

// withs reads what is defined behind t, again and again.
func (p *parser) withs(t api.Term) api.Term {
	for p.accept("with") {
		t = api.Term{Op: "with", Kids: []api.Term{t}, Defs: p.braced()}
	}
	return t
}

// braced reads definitions in braces.
func (p *parser) braced() []api.Def {
	p.expect("{")
	defs := p.definitions()
	p.expect("}")
	return defs
}

// joined reads what is joined by signs that hold at least so tightly; a comma may be none of them.
func (p *parser) joined(least int, hasCommas bool) api.Term {
	t := p.applied()
	for p.now.sort == fixed && (hasCommas || !p.is(",")) {
		op, hold := jointOf(p.now.text)
		if hold < least {
			break
		}
		p.next()
		t = api.Term{Op: op, Kids: []api.Term{t, p.joined(hold+1, hasCommas)}}
	}
	return t
}

// applied reads a primary, and the arguments and names behind it.
func (p *parser) applied() api.Term {
	t := p.primary()
	for {
		switch {
		case p.accept("("):
			t = api.Term{Op: "call", Kids: append([]api.Term{t}, p.arguments(")")...)}
		case p.accept("."):
			t = api.Term{Op: "dot", Text: p.name(), Kids: []api.Term{t}}
		default:
			return t
		}
	}
}

// primary reads a primary.
func (p *parser) primary() api.Term {
	p.takeMinus()
	first := p.now
	switch first.sort {
	case number:
		return p.number()
	case name:
		return api.Term{Op: "name", Text: p.name()}
	case text:
		p.next()
		return api.Term{Op: "text", Text: first.text[1 : len(first.text)-1]}
	case fixed:
		return p.begun()
	}
	refuse(first, api.ErrForm)
	return api.Term{}
}

// begun reads a primary that begins with a sign or a word.
func (p *parser) begun() api.Term {
	first := p.now
	p.next()
	switch first.text {
	case "_":
		return api.Term{Op: "wire"}
	case "!":
		return api.Term{Op: "cut"}
	case "(":
		return p.closed()
	case "[":
		return api.Term{Op: "list", Kids: p.arguments("]")}
	case `\`:
		return p.function()
	case "par", "seq", "sum":
		return p.iteration(first.text)
	case "case":
		return api.Term{Op: "case", Defs: p.rules()}
	case "env":
		return api.Term{Op: "env", Defs: p.braced()}
	}
	operator, ok := operatorOf(first.text)
	if !ok {
		refuse(first, api.ErrForm)
	}
	return api.Term{Op: "op", Text: operator}
}

// closed reads an expression and the bracket behind it.
func (p *parser) closed() api.Term {
	t := p.expression()
	p.expect(")")
	return t
}

// function reads what stands behind the backslash of a fun.
func (p *parser) function() api.Term {
	p.expect("(")
	names := listed(p, ")", p.anotherName)
	p.expect(".")
	p.expect("(")
	return api.Term{Op: "fun", Names: names, Kids: []api.Term{p.closed()}}
}

// iteration reads what stands behind the word of an iter.
func (p *parser) iteration(word string) api.Term {
	p.expect("(")
	t := api.Term{Op: "iter", Text: word, Names: []string{p.name()}}
	p.expect(",")
	often := p.argument()
	p.expect(",")
	t.Kids = []api.Term{often, p.argument()}
	p.expect(")")
	return t
}

// rules reads the rules of a case.
func (p *parser) rules() []api.Def {
	p.expect("{")
	rules := []api.Def{p.rule(nil)}
	for !p.accept("}") {
		rules = append(rules, p.rule(rules))
	}
	return rules
}

// rule reads a rule that has as many patterns as those ahead.
func (p *parser) rule(ahead []api.Def) api.Def {
	opening := p.now
	p.expect("(")
	patterns := listed(p, ")", p.pattern)
	if len(ahead) > 0 && len(patterns) != len(ahead[0].Args) {
		refuse(opening, api.ErrForm)
	}
	p.expect("=>")
	rule := api.Def{Args: patterns, Body: p.expression()}
	p.expect(";")
	return rule
}
