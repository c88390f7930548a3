package term_test

import (
	"slices"
	"strings"
	"testing"

	"serinette/api"
	"serinette/ratio"
	"serinette/term"
)

func num(n, d int64) api.Term { return api.Term{Op: "num", Num: ratio.Make(n, d)} }

func name(s string) api.Term { return api.Term{Op: "name", Text: s} }

func text(s string) api.Term { return api.Term{Op: "text", Text: s} }

func wire() api.Term { return api.Term{Op: "wire"} }

func cut() api.Term { return api.Term{Op: "cut"} }

func operator(s string) api.Term { return api.Term{Op: "op", Text: s} }

func two(op string, a, b api.Term) api.Term { return api.Term{Op: op, Kids: []api.Term{a, b}} }

func call(l ...api.Term) api.Term { return api.Term{Op: "call", Kids: l} }

func dot(t api.Term, s string) api.Term { return api.Term{Op: "dot", Text: s, Kids: []api.Term{t}} }

func list(l ...api.Term) api.Term { return api.Term{Op: "list", Kids: l} }

func fun(names string, body api.Term) api.Term {
	return api.Term{Op: "fun", Names: strings.Fields(names), Kids: []api.Term{body}}
}

func iter(word, s string, often, body api.Term) api.Term {
	return api.Term{Op: "iter", Text: word, Names: []string{s}, Kids: []api.Term{often, body}}
}

func with(t api.Term, defs ...api.Def) api.Term {
	return api.Term{Op: "with", Kids: []api.Term{t}, Defs: defs}
}

func cases(rules ...api.Def) api.Term { return api.Term{Op: "case", Defs: rules} }

func env(defs ...api.Def) api.Term { return api.Term{Op: "env", Defs: defs} }

func rule(body api.Term, patterns ...api.Term) api.Def { return api.Def{Args: patterns, Body: body} }

func def(s string, body api.Term, patterns ...api.Term) api.Def {
	return api.Def{Name: s, Args: patterns, Body: body}
}

// same tells whether two terms are the same; an empty list is as a nil one.
func same(a, b api.Term) bool {
	return a.Op == b.Op && a.Text == b.Text && a.Num == b.Num && slices.Equal(a.Names, b.Names) && slices.EqualFunc(a.Kids, b.Kids, same) && sameDefs(a.Defs, b.Defs)
}

// sameDefs tells whether two lists of definitions are the same.
func sameDefs(a, b []api.Def) bool {
	return slices.EqualFunc(a, b, func(d, e api.Def) bool {
		return d.Name == e.Name && slices.EqualFunc(d.Args, e.Args, same) && same(d.Body, e.Body)
	})
}

// isNothing tells whether t is the zero term.
func isNothing(t api.Term) bool { return same(t, api.Term{}) }

// copied returns a term that shares no memory with t.
func copied(t api.Term) api.Term {
	t.Names = slices.Clone(t.Names)
	t.Kids = slices.Clone(t.Kids)
	for i, kid := range t.Kids {
		t.Kids[i] = copied(kid)
	}
	t.Defs = copiedDefs(t.Defs)
	return t
}

// copiedDefs returns definitions that share no memory with these.
func copiedDefs(defs []api.Def) []api.Def {
	defs = slices.Clone(defs)
	for i, d := range defs {
		defs[i].Args = slices.Clone(d.Args)
		for k, pattern := range d.Args {
			defs[i].Args[k] = copied(pattern)
		}
		defs[i].Body = copied(d.Body)
	}
	return defs
}

// dump writes a term in a form of the tests' own: (OP.TEXT[NAMES] KIDS {DEFS}), leaves in short.
func dump(t api.Term) string {
	switch t.Op {
	case "num":
		return ratio.Text(t.Num)
	case "name":
		return t.Text
	case "text":
		return `"` + t.Text + `"`
	case "op":
		return "#" + t.Text
	case "wire", "cut":
		return t.Op
	}
	s := "(" + t.Op
	if t.Text != "" {
		s += "." + t.Text
	}
	if len(t.Names) > 0 {
		s += "[" + strings.Join(t.Names, " ") + "]"
	}
	for _, kid := range t.Kids {
		s += " " + dump(kid)
	}
	if t.Op == "with" || t.Op == "case" || t.Op == "env" {
		s += " {" + dumpDefs(t.Defs) + "}"
	}
	return s + ")"
}

// dumpDefs writes definitions in a form of the tests' own.
func dumpDefs(defs []api.Def) string {
	var l []string
	for _, d := range defs {
		s := d.Name
		for _, pattern := range d.Args {
			s += "," + dump(pattern)
		}
		l = append(l, s+"="+dump(d.Body))
	}
	return strings.Join(l, "; ")
}

// chance is a row of numbers that look like drawn ones, the same each time.
type chance uint64

// of returns a number from 0 to n - 1.
func (c *chance) of(n int) int {
	*c = *c*6364136223846793005 + 1442695040888963407
	return int(uint64(*c) >> 33 % uint64(n))
}

// one returns one of a list.
func one[T any](c *chance, l ...T) T { return l[c.of(len(l))] }

// number returns a number, also below 0.
func (c *chance) number() api.Term {
	return one(c, num(0, 1), num(1, 1), num(-1, 1), num(12, 1), num(1, 2), num(-3, 4), num(-api.MaxNum, api.MaxNum-1), num(api.MaxNum, 1))
}

// name returns a name, also such as look like words and signs.
func (c *chance) name() string {
	return one(c, "a", "b", "c", "x1", "par1", "seq_", "Sum", "WITH", "env_1", "none", "add", "n_a_m_e", strings.Repeat("Z", api.MaxName))
}

// names returns names that are different.
func (c *chance) names() []string {
	var l []string
	for n := 1 + c.of(3); len(l) < n; {
		if s := c.name(); !slices.Contains(l, s) {
			l = append(l, s)
		}
	}
	return l
}

// patterns returns so many patterns.
func (c *chance) patterns(n int) []api.Term {
	var l []api.Term
	var names []string
	for len(l) < n {
		if s := c.name(); c.of(3) > 0 && !slices.Contains(names, s) {
			names = append(names, s)
			l = append(l, name(s))
		} else {
			l = append(l, c.number())
		}
	}
	return l
}

// term returns a valid term of at most this depth.
func (c *chance) term(depth int) api.Term {
	if depth <= 1 || c.of(6) == 0 {
		return one(c, c.number(), name(c.name()), text(one(c, "", "x", "a/b // c", `\ ~ {`)), wire(), cut(), operator(one(c, operatorTexts()...)), env())
	}
	sub := func() api.Term { return c.term(depth - 1) }
	switch c.of(14) {
	case 0:
		return call(sub(), sub())
	case 1:
		return call(sub(), sub(), sub())
	case 2:
		return dot(sub(), c.name())
	case 3:
		return list(sub(), sub())
	case 4:
		return api.Term{Op: "fun", Names: c.names(), Kids: []api.Term{sub()}}
	case 5:
		return iter(one(c, "par", "seq", "sum"), c.name(), sub(), sub())
	case 6:
		return with(sub(), c.defs(depth-1)...)
	case 7:
		n := 1 + c.of(3)
		return cases(rule(sub(), c.patterns(n)...), rule(sub(), c.patterns(n)...))
	case 8:
		return env(c.defs(depth - 1)...)
	}
	return two(one(c, "par", "seq", "split", "merge", "rec"), sub(), sub())
}

// defs returns definitions.
func (c *chance) defs(depth int) []api.Def {
	var l []api.Def
	for range c.of(4) {
		l = append(l, def(c.name(), c.term(depth), c.patterns(c.of(3))...))
	}
	return l
}

// operatorTexts returns the Texts of operators, in the order of operatorSigns.
func operatorTexts() []string {
	return strings.Fields("add sub mul div mod lt le eq ne and or xor shl shr")
}

// operatorSigns returns the signs of operators.
func operatorSigns() []string {
	return strings.Fields("+ - * / % < <= == != & | ^ << >>")
}

// mustExpr reads an expression that is one.
func mustExpr(t *testing.T, s string) api.Term {
	t.Helper()
	got, place, err := term.Expr(s)
	if place != 0 || err != api.OK {
		t.Fatalf("Expr(%q): place %d, %v", s, place, err)
	}
	return got
}

// mustParse reads a source that is one.
func mustParse(t *testing.T, s string) []api.Def {
	t.Helper()
	got, place, err := term.Parse(s)
	if place != 0 || err != api.OK {
		t.Fatalf("Parse(%q): place %d, %v", s, place, err)
	}
	return got
}
