package define_test

import (
	"slices"
	"strings"
	"testing"

	"serinette/api"
	"serinette/block"
	"serinette/define"
	"serinette/term"
)

// shown returns a program as text, for what a test tells of it.
func shown(p program) string {
	s := ""
	for _, l := range p.libraries {
		text, _ := term.Print(l.Defs)
		s += "library " + l.Name + ":\n" + text
	}
	text, _ := term.Print(p.defs)
	t, _ := term.Show(p.t)
	return s + text + "of which " + t
}

// eval returns what comes of a program.
func eval(p program) (text, where string, err api.Errno) {
	b, where, err := define.Eval(p.defs, p.t, p.libraries)
	return told(b, where, err), where, err
}

// P6.1: drawn programs are evaluated as the chapter's words say.
func TestEvalByWords(t *testing.T) {
	c := chance(1)
	seen := map[api.Errno]int{}
	for i := range 20000 {
		p := draw(&c, []int{0, 30, 100}[i%3])
		want := told(evalByWords(p.defs, p.t, p.libraries))
		got, _, err := eval(p)
		if got != want {
			t.Fatalf("%s\ngot  %s\nwant %s", shown(p), got, want)
		}
		seen[err]++
	}
	for _, err := range []api.Errno{api.ErrArg, api.ErrTwice, api.ErrPorts, api.ErrName, api.ErrMatch, api.ErrNumber} {
		if seen[err] < 20 {
			t.Errorf("%s but %d times", nameOf(err), seen[err])
		}
	}
	if seen[api.OK] < 10000 {
		t.Errorf("tried but %d", seen[api.OK])
	}
}

// P6.1: also of sources, as text, that are printed and read.
func TestSourcesByWords(t *testing.T) {
	c := chance(2)
	tried := 0
	for range 3000 {
		p := draw(&c, 60)
		defs := append(slices.Clone(p.defs), api.Def{Name: "whole", Body: p.t})
		source, err := term.Print(defs)
		if _, _, e := term.Parse(source); err != api.OK || e != api.OK {
			continue
		}
		tried++
		want := told(evalByWords(defs, name("whole"), nil))
		if got := told(define.Source(source, "whole")); got != want {
			t.Fatalf("%s\ngot  %s\nwant %s", source, got, want)
		}
	}
	if tried < 2000 {
		t.Errorf("tried but %d", tried)
	}
}

// P6.1: numbers of drawn blocks, as the chapter's words say.
func TestNumberByWords(t *testing.T) {
	c := chance(3)
	found := 0
	for i := range 20000 {
		d := &drawer{chance: &c}
		s := sort{kind: "number"}
		if i%3 == 0 {
			s = sort{kind: "block", outs: 1}
		}
		b, _, err := define.Eval(nil, d.term(s, 4+c.of(20)), nil)
		if err != api.OK {
			continue
		}
		ins, outs, _ := block.Ports(b)
		want, ok := numberByWords(thing{sort: "block", block: b, ins: ins, outs: outs})
		if got, is := define.Number(b); got != want || is != ok {
			t.Fatalf("%s: got %v, %t, want %v, %t", told(b, "", api.OK), got, is, want, ok)
		}
		if ok {
			found++
		}
	}
	if found < 8000 {
		t.Errorf("tried but %d", found)
	}
}

// puts replaces names in a term where they are not bound in it.
type puts struct {
	name       string
	by         api.Term
	free       []string // the names that stand free in it
	isCaptured bool     // one of these would be bound where it is put
}

// term replaces the name in a term, ahead of which these are bound.
func (p *puts) term(t api.Term, bound []string) api.Term {
	if t.Op == "name" && t.Text == p.name && !slices.Contains(bound, p.name) {
		p.isCaptured = p.isCaptured || slices.ContainsFunc(p.free, func(s string) bool { return slices.Contains(bound, s) })
		return p.by
	}
	var inner []string
	if t.Op == "fun" || t.Op == "iter" {
		inner = t.Names
	}
	for _, d := range t.Defs {
		if d.Name != "" {
			inner = append(slices.Clip(inner), d.Name)
		}
	}
	t.Kids = slices.Clone(t.Kids)
	for i, kid := range t.Kids {
		if t.Op == "iter" && i == 0 {
			t.Kids[i] = p.term(kid, bound)
		} else {
			t.Kids[i] = p.term(kid, slices.Concat(bound, inner))
		}
	}
	t.Defs = p.bodies(t.Defs, slices.Concat(bound, inner))
	return t
}

// bodies replaces the name in bodies.
func (p *puts) bodies(defs []api.Def, bound []string) []api.Def {
	defs = slices.Clone(defs)
	for i, d := range defs {
		inner := slices.Clone(bound)
		for _, pattern := range d.Args {
			if pattern.Op == "name" {
				inner = append(inner, pattern.Text)
			}
		}
		defs[i].Body = p.term(d.Body, inner)
	}
	return defs
}

// P6.2: the name of a definition may be changed to one that nothing else has.
func TestNamesOfDefinitionsMayChange(t *testing.T) {
	c := chance(4)
	good, bad := 0, 0
	for i := range 12000 {
		p := draw(&c, []int{0, 50}[i%2])
		if len(p.defs) == 0 {
			continue
		}
		old := among(&c, p.defs...).Name
		put := puts{name: old, by: name("fresh"), free: []string{"fresh"}}
		other := program{put.bodies(p.defs, nil), put.term(p.t, nil), p.libraries}
		for i, d := range other.defs {
			if d.Name == old {
				other.defs[i].Name = "fresh"
			}
		}
		want, where, err := eval(p)
		got, nowWhere, nowErr := eval(other)
		isThere := where == nowWhere || where == old && nowWhere == "fresh"
		if err != nowErr || !isThere || err == api.OK && got != want {
			t.Fatalf("%s, then %s: %s\ngot  %s\nwant %s", old, "fresh", shown(p), got, want)
		}
		if err == api.OK {
			good++
		} else {
			bad++
		}
	}
	if good < 5000 || bad < 500 {
		t.Errorf("tried but %d, %d", good, bad)
	}
}

// renamed returns a name by which another one is changed everywhere. Those of built-ins stay.
func renamed(s string) string {
	if s == "" || slices.Contains(strings.Fields("neg abs floor round frac not min max pick delay vary table store wave knob show fix float up down gate reset"), s) {
		return s
	}
	return "q_" + s
}

// renamedTerm changes all names in a term.
func renamedTerm(t api.Term) api.Term {
	if t.Op == "name" || t.Op == "dot" {
		t.Text = renamed(t.Text)
	}
	t.Names = slices.Clone(t.Names)
	for i, s := range t.Names {
		t.Names[i] = renamed(s)
	}
	t.Kids = slices.Clone(t.Kids)
	for i, kid := range t.Kids {
		t.Kids[i] = renamedTerm(kid)
	}
	t.Defs = renamedDefs(t.Defs)
	return t
}

// renamedDefs changes all names in definitions.
func renamedDefs(defs []api.Def) []api.Def {
	var l []api.Def
	for _, d := range defs {
		d.Name, d.Body, d.Args = renamed(d.Name), renamedTerm(d.Body), slices.Clone(d.Args)
		for i, pattern := range d.Args {
			d.Args[i] = renamedTerm(pattern)
		}
		l = append(l, d)
	}
	return l
}

// P6.2: all names may be changed.
func TestAllNamesMayChange(t *testing.T) {
	c := chance(5)
	for i := range 12000 {
		p := draw(&c, []int{0, 50}[i%2])
		other := program{renamedDefs(p.defs), renamedTerm(p.t), nil}
		for _, l := range p.libraries {
			other.libraries = append(other.libraries, define.Library{Name: renamed(l.Name), Defs: renamedDefs(l.Defs)})
		}
		want, where, err := eval(p)
		if err != api.OK {
			want = strings.TrimSpace(nameOf(err) + " " + renamed(where))
		}
		if got, _, _ := eval(other); got != want {
			t.Fatalf("%s\ngot  %s\nwant %s", shown(p), got, want)
		}
	}
}

// P6.2: a definition may be put in place of its name, as far as no name in it is bound there by something else.
func TestDefinitionsMayBePut(t *testing.T) {
	c := chance(6)
	tried := 0
	for range 20000 {
		p := draw(&c, 0)
		want, _, err := eval(p)
		if len(p.defs) == 0 || err != api.OK {
			continue
		}
		d := among(&c, p.defs...)
		free := term.Free(d.Body)
		if len(d.Args) > 0 || slices.Contains(free, d.Name) {
			continue
		}
		put := puts{name: d.Name, by: d.Body, free: free}
		other := program{put.bodies(p.defs, nil), put.term(p.t, nil), p.libraries}
		if put.isCaptured {
			continue
		}
		if got, _, _ := eval(other); got != want {
			t.Fatalf("%s in place of its name: %s\ngot  %s\nwant %s", d.Name, shown(p), got, want)
		}
		before, _ := term.Show(p.t)
		if after, _ := term.Show(other.t); after != before {
			tried++
		}
	}
	if tried < 2000 {
		t.Errorf("tried but %d", tried)
	}
}

// reordered puts definitions of unlike names in another order, everywhere in them; rules of a case, and those of one name, stay in theirs.
func reordered(c *chance, defs []api.Def) []api.Def {
	var groups [][]api.Def
	for _, d := range defs {
		d.Body = reorderedTerm(c, d.Body)
		i := slices.IndexFunc(groups, func(l []api.Def) bool { return l[0].Name == d.Name })
		if i < 0 {
			groups = append(groups, nil)
			i = len(groups) - 1
		}
		groups[i] = append(groups[i], d)
	}
	shuffle(c, groups)
	// Those of several names may also stand among each other.
	var all []api.Def
	for len(groups) > 0 {
		i := c.of(len(groups))
		all = append(all, groups[i][0])
		if groups[i] = groups[i][1:]; len(groups[i]) == 0 {
			groups = slices.Delete(groups, i, i+1)
		}
	}
	return all
}

// reorderedTerm does so in a term.
func reorderedTerm(c *chance, t api.Term) api.Term {
	t.Kids = slices.Clone(t.Kids)
	for i, kid := range t.Kids {
		t.Kids[i] = reorderedTerm(c, kid)
	}
	t.Defs = reordered(c, t.Defs)
	return t
}

// P6.2: what a program means does not depend on the order of definitions of unlike names.
func TestOrderOfDefinitions(t *testing.T) {
	c := chance(7)
	for i := range 12000 {
		p := draw(&c, []int{0, 50}[i%2])
		other := program{reordered(&c, p.defs), reorderedTerm(&c, p.t), nil}
		for _, l := range p.libraries {
			other.libraries = append(other.libraries, define.Library{Name: l.Name, Defs: reordered(&c, l.Defs)})
		}
		want, _, _ := eval(p)
		if got, _, _ := eval(other); got != want {
			t.Fatalf("%s\nand %s\ngot  %s\nwant %s", shown(p), shown(other), got, want)
		}
	}
}

// P6.2: the consequences, written out.
func TestConsequences(t *testing.T) {
	same := func(want string, l ...string) {
		t.Helper()
		for _, s := range l {
			sources(t, [2]string{s, want})
		}
	}
	same("(seq (par (num 3) (seq (par (num 2) wire) add)) mul)",
		"x = y , z : *; y = 3; z = +(2);", "z = +(2); y = 3; x = y , z : *;", "y = 3; x = y , z : *; z = +(2);",
		"x = 3 , z : *; z = +(2);", "x = y , +(2) : *; y = 3;", "x = 3 , +(2) : *;",
		"x = y , z : * with { z = +(2); y = 3; };", "x = f(3, +(2)); f(a, b) = a , b : *;", "x = f(3, +(2)); f(b, a) = b , a : *;", `x = \(y, z).(y , z : *)(3, +(2));`, "x = e.y , e.z : *; e = env { z = +(2); y = 3; };", "x = e.e , z.z : *; e = env { e = 3; }; z = env { z = +(2); };",
	)
	same("(par (num 1) (num 2))", "f(0) = 1; f(n) = 2; x = f(0) , f(5);", "f(0) = 1; x = f(0) , f(5); f(m) = 2;", "x = f(0) , f(5); f(0) = 1; f(f) = 2;", "g(0) = 1; x = g(0) , g(5); g(n) = 2;", "x = f(0) , f(5) with { f(0) = 1; y = 3; f(n) = 2; };")
	// What is put is bound by something else there.
	same("(num 1)", "x = y with { z = 2; }; y = z; z = 1;")
	same("(num 2)", "x = z with { z = 2; }; z = 1;")
}
