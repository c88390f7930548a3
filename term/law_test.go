package term_test

import (
	"slices"
	"strings"
	"testing"

	"serinette/api"
	"serinette/ratio"
	"serinette/term"
)

// speller writes terms as tokens with no more brackets than they need.
type speller struct{ tokens []string }

func (w *speller) put(l ...string) { w.tokens = append(w.tokens, l...) }

// holds tells how tightly what an op makes holds; with is the loosest.
func holds(op string) int {
	return 1 + slices.Index([]string{"with", "split", "seq", "par", "rec"}, strings.Replace(op, "merge", "split", 1))
}

// spell writes t where what holds less tightly needs brackets, and par, too, within an argument.
func (w *speller) spell(t api.Term, least int, isArg bool) {
	hold := holds(t.Op)
	switch {
	case hold > 0 && (hold < least || t.Op == "par" && isArg):
		w.put("(")
		w.spell(t, 0, false)
		w.put(")")
	case t.Op == "with":
		w.spell(t.Kids[0], hold, isArg)
		w.put("with")
		w.braced(t.Defs)
	case hold > 0:
		w.spell(t.Kids[0], hold, isArg)
		w.put(map[string]string{"split": "<:", "merge": ":>", "seq": ":", "par": ",", "rec": "~"}[t.Op])
		w.spell(t.Kids[1], hold+1, isArg)
	default:
		w.primary(t)
	}
}

// primary writes what needs no brackets.
func (w *speller) primary(t api.Term) {
	switch t.Op {
	case "num":
		w.put(ratio.Text(t.Num))
	case "name":
		w.put(t.Text)
	case "text":
		w.put(`"` + t.Text + `"`)
	case "wire":
		w.put("_")
	case "cut":
		w.put("!")
	case "op":
		w.put(operatorSigns()[slices.Index(operatorTexts(), t.Text)])
	case "call":
		w.spell(t.Kids[0], 9, false)
		w.row("(", t.Kids[1:], ")")
	case "dot":
		w.spell(t.Kids[0], 9, false)
		w.put(".", t.Text)
	case "list":
		w.row("[", t.Kids, "]")
	case "fun":
		w.put(`\`, "(")
		w.put(strings.Fields(strings.Join(t.Names, " , "))...)
		w.put(")", ".", "(")
		w.spell(t.Kids[0], 0, false)
		w.put(")")
	case "iter":
		w.put(t.Text, "(", t.Names[0])
		w.row(",", t.Kids, ")")
	default:
		w.put(t.Op)
		w.braced(t.Defs)
	}
}

// row writes arguments.
func (w *speller) row(opening string, l []api.Term, closing string) {
	for _, t := range l {
		w.put(opening)
		w.spell(t, 0, true)
		opening = ","
	}
	w.put(closing)
}

// braced writes definitions or rules in braces.
func (w *speller) braced(defs []api.Def) {
	w.put("{")
	w.defs(defs)
	w.put("}")
}

// defs writes definitions or rules.
func (w *speller) defs(defs []api.Def) {
	for _, d := range defs {
		sign := "=>"
		if d.Name != "" {
			w.put(d.Name)
			sign = "="
		}
		if len(d.Args) > 0 {
			w.row("(", d.Args, ")")
		}
		w.put(sign)
		w.spell(d.Body, 0, false)
		w.put(";")
	}
}

// parted puts something between tokens, nothing only where they do not run into one another.
func (c *chance) parted(tokens []string) string {
	alone := func(s string) bool { return strings.Contains("()[]{},;~", s) }
	var b strings.Builder
	for i, s := range tokens {
		if i > 0 && tokens[i-1] == "/" {
			b.WriteString(" ") // Else a comment would begin with it.
		}
		if i > 0 && !(c.of(2) == 0 && (alone(s) || alone(tokens[i-1]))) {
			b.WriteString(one(c, " ", "\n", "\t", "  \t\n\n", "//\n", "\t// a ; \" } @ \x00 é\n", "//// 1/0\n "))
		}
		b.WriteString(s)
	}
	return b.String()
}

// beyond tells whether Parse must find definitions beyond the limits.
func beyond(source string, defs []api.Def) bool {
	return len(source) > api.MaxText || term.Size(env(defs...))-1 > api.MaxTerm || dumpDepth(env(defs...))-1 > api.MaxNest
}

// dumpDepth returns how deep a term is.
func dumpDepth(t api.Term) int {
	deepest := 0
	for _, kid := range t.Kids {
		deepest = max(deepest, dumpDepth(kid))
	}
	for _, d := range t.Defs {
		deepest = max(deepest, dumpDepth(d.Body))
	}
	return 1 + deepest
}

// P4.3, P4.1: what is spelled is read, whatever blanks and comments stand between tokens.
func TestSpelledIsRead(t *testing.T) {
	c := chance(41)
	read := 0
	for range 6000 {
		v := c.term(2 + c.of(5))
		w := &speller{}
		w.spell(v, 0, false)
		for _, s := range []string{strings.Join(w.tokens, " "), c.parted(w.tokens), " \n\t" + c.parted(w.tokens) + " // \\"} {
			if len(s) > api.MaxText {
				continue
			}
			if got, place, err := term.Expr(s); !same(got, v) || place != 0 || err != api.OK {
				t.Fatalf("Expr(%q): got %s, place %d, %v, want %s", s, dump(got), place, err, dump(v))
			}
			read++
		}
	}
	if read < 15000 {
		t.Errorf("only %d were read", read)
	}
}

// P4.2: Expr of Show is the term; the arguments stay as they were.
func TestExprOfShow(t *testing.T) {
	c := chance(42)
	for range 6000 {
		v := c.term(2 + c.of(6))
		before := copied(v)
		s, err := term.Show(v)
		if err != api.OK {
			t.Fatalf("Show(%s): %v", dump(v), err)
		}
		term.Free(v)
		if !same(v, before) || !term.Valid(v) || term.Size(v) != countNodes(v) {
			t.Fatalf("%s: changed, not valid, or of Size %d", dump(before), term.Size(v))
		}
		if len(s) > api.MaxText {
			continue
		}
		if got, place, err := term.Expr(s); !same(got, v) || place != 0 || err != api.OK {
			t.Fatalf("Expr(%q): got %s, place %d, %v", s, dump(got), place, err)
		}
	}
}

// countNodes counts the nodes of t.
func countNodes(t api.Term) int {
	n := 1
	for _, kid := range t.Kids {
		n += countNodes(kid)
	}
	for _, d := range t.Defs {
		n += len(d.Args) + countNodes(d.Body)
	}
	return n
}

// P4.2, P4.3: Parse of Print gives the same definitions, and Print of these the same text.
func TestParseOfPrint(t *testing.T) {
	c := chance(43)
	read := 0
	for range 4000 {
		defs := c.defs(2 + c.of(5))
		before := copiedDefs(defs)
		s, err := term.Print(defs)
		if err != api.OK || !sameDefs(defs, before) {
			t.Fatalf("Print(%s): %v, or changed", dumpDefs(defs), err)
		}
		if strings.Count(s, "\n") != len(defs) || len(defs) > 0 && !strings.HasSuffix(s, ";\n") {
			t.Errorf("Print(%s) has not each definition on a line", dumpDefs(defs))
		}
		got, place, err := term.Parse(s)
		if beyond(s, defs) {
			if len(got) > 0 || place != 0 || err != api.ErrLimit {
				t.Errorf("Parse beyond the limits: place %d, %v", place, err)
			}
			continue
		}
		if !sameDefs(got, defs) || place != 0 || err != api.OK {
			t.Fatalf("Parse(%q): got %s, place %d, %v", s, dumpDefs(got), place, err)
		}
		if again, err := term.Print(got); again != s || err != api.OK {
			t.Errorf("Print of Parse of %q: got %q, %v", s, again, err)
		}
		read++
	}
	if read < 3000 {
		t.Errorf("only %d were read", read)
	}
}

// P4.3: Print of Parse is read to the same again, of sources as they may be written.
func TestPrintOfParse(t *testing.T) {
	c := chance(44)
	for range 3000 {
		w := &speller{}
		w.defs(c.defs(2 + c.of(4)))
		source := c.parted(w.tokens)
		defs, _, err := term.Parse(source)
		if err != api.OK {
			continue
		}
		s, err := term.Print(defs)
		if err != api.OK {
			t.Fatalf("Print of Parse(%q): %v", source, err)
		}
		if again, _, err := term.Parse(s); !beyond(s, defs) && (!sameDefs(again, defs) || err != api.OK) {
			t.Fatalf("Parse(%q): got %s, %v, want %s", s, dumpDefs(again), err, dumpDefs(defs))
		}
	}
}

// P4.2: Free of all kinds of terms within one another, told in the tests' own way.
func TestFreeOfDrawn(t *testing.T) {
	c := chance(45)
	for range 4000 {
		v := c.term(2 + c.of(5))
		if got, want := term.Free(v), freeOf(v, nil); !slices.Equal(got, want) {
			t.Fatalf("Free of %s: got %v, want %v", dump(v), got, want)
		}
	}
}

// freeOf returns the free names of t where others are bound, each once.
func freeOf(t api.Term, bound []string) []string {
	var l []string
	within := bound
	switch t.Op {
	case "name":
		if !slices.Contains(bound, t.Text) {
			return []string{t.Text}
		}
	case "iter":
		l = append(freeOf(t.Kids[0], bound), freeOf(t.Kids[1], append(slices.Clone(bound), t.Names...))...)
		return once(l)
	case "fun":
		within = append(slices.Clone(bound), t.Names...)
	case "with", "env":
		within = slices.Clone(bound)
		for _, d := range t.Defs {
			within = append(within, d.Name)
		}
	}
	for _, kid := range t.Kids {
		l = append(l, freeOf(kid, within)...)
	}
	for _, d := range t.Defs {
		inBody := slices.Clone(within)
		for _, pattern := range d.Args {
			if pattern.Op == "name" {
				inBody = append(inBody, pattern.Text)
			}
		}
		l = append(l, freeOf(d.Body, inBody)...)
	}
	return once(l)
}

// once returns each name where it stands first.
func once(l []string) []string {
	var first []string
	for _, s := range l {
		if !slices.Contains(first, s) {
			first = append(first, s)
		}
	}
	return first
}

// P4.1, R1: no bytes make a function panic; what is refused has a place within, and nothing else.
func TestAnyBytes(t *testing.T) {
	c := chance(46)
	pieces := strings.Split("a b par seq with case env 0 1 -2 1/2 1. 3.5 1/0 99999999999 \"t\" \" ~ , : <: :> ( ) { } [ ] = ; . \\ => _ ! + - * / % < <= == != & | ^ << >> > // @ \n \x00 é (x) {a=1;} par(i, case{( \\(x).( with{", " ")
	for range 60000 {
		var b strings.Builder
		for range c.of(14) {
			b.WriteString(one(&c, pieces...) + one(&c, "", "", " "))
		}
		s := b.String()
		checkOutcome(t, s)
	}
}

// checkOutcome tells that what is read of s is valid, or refused with a place, and no more.
func checkOutcome(t *testing.T, s string) {
	t.Helper()
	v, place, err := term.Expr(s)
	if err == api.OK && (place != 0 || !term.Valid(v)) || err != api.OK && (!isNothing(v) || place < 0 || place > len(s) || err != api.ErrForm && err != api.ErrTwice) {
		t.Errorf("Expr(%q): %s, place %d, %v", s, dump(v), place, err)
	}
	defs, place, err := term.Parse(s)
	if err == api.OK && (place != 0 || !term.Valid(env(defs...))) || err != api.OK && (len(defs) > 0 || place < 0 || place > len(s) || err != api.ErrForm && err != api.ErrTwice) {
		t.Errorf("Parse(%q): %s, place %d, %v", s, dumpDefs(defs), place, err)
	}
}

// P4.1, R1: no raw terms make a function panic; what is valid is read from its text.
func TestAnyTerms(t *testing.T) {
	c := chance(47)
	valid := 0
	for range 60000 {
		v := c.raw(1 + c.of(3))
		s, err := term.Show(v)
		if term.Valid(v) != (err == api.OK) || term.Valid(v) != (term.Size(v) > 0) {
			t.Errorf("%#v: %q, %v, Size %d", v, s, err, term.Size(v))
		}
		term.Free(v)
		if err != api.OK {
			continue
		}
		valid++
		if got, place, err := term.Expr(s); !same(got, v) || err != api.OK {
			t.Errorf("Expr(%q): got %#v, place %d, %v, want %#v", s, got, place, err, v)
		}
	}
	if valid < 2000 {
		t.Errorf("only %d are valid", valid)
	}
}

// raw returns a term that may have any fields.
func (c *chance) raw(depth int) api.Term {
	seldom := 8
	t := api.Term{Op: one(c, "num", "name", "text", "wire", "cut", "op", "par", "seq", "split", "merge", "rec", "call", "dot", "list", "fun", "iter", "with", "case", "env", "")}
	if strings.Contains("name text dot iter op", t.Op) != (c.of(seldom) == 0) {
		t.Text = one(c, "a", "b", "add", "par", "sum", "")
	}
	if (t.Op == "num") != (c.of(seldom) == 0) {
		t.Num = one(c, ratio.Make(1, 2), ratio.Make(-1, 1), ratio.Make(0, 1), api.Q{N: 2, D: 2}, api.Q{})
	}
	if strings.Contains("fun iter", t.Op) != (c.of(seldom) == 0) {
		t.Names = [][]string{{"a"}, {"b"}, {"a", "b"}, {"a", "a"}, {"par"}, {}}[c.of(6)]
	}
	if strings.Contains("par seq split merge rec call dot list fun iter with", t.Op) != (c.of(seldom) == 0) && depth > 1 {
		for range c.of(4) {
			t.Kids = append(t.Kids, c.raw(depth-1))
		}
	}
	if strings.Contains("with case env", t.Op) != (c.of(seldom) == 0) && depth > 1 {
		for range c.of(3) {
			d := api.Def{Name: one(c, "", "a", "b", "1"), Body: c.raw(depth - 1)}
			for range c.of(3) {
				d.Args = append(d.Args, one(c, name("a"), name("b"), num(1, 1), wire(), c.raw(1)))
			}
			t.Defs = append(t.Defs, d)
		}
	}
	return t
}
