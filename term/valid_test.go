package term_test

import (
	"strings"
	"testing"

	"serinette/api"
	"serinette/ratio"
	"serinette/term"
)

// samples returns a valid term of each kind.
func samples() []api.Term {
	l := []api.Term{
		num(1, 2), num(0, 1), name("a"), text("t"), text(""), wire(), cut(), call(name("f"), num(1, 1)), call(name("f"), num(1, 1), wire(), cut()), dot(name("a"), "b"), list(num(1, 1)), list(num(1, 1), wire(), cut()),
		fun("x", name("x")), fun("x y z", name("x")), iter("par", "i", num(3, 1), name("i")), iter("seq", "i", num(3, 1), name("i")), iter("sum", "i", num(3, 1), name("i")),
		with(name("a")), with(name("a"), def("a", num(1, 1)), def("a", num(2, 1), name("x"), num(-1, 2), name("y"))), cases(rule(num(1, 1), num(0, 1))), cases(rule(name("n"), name("n"), num(0, 1)), rule(num(2, 1), num(0, 1), num(0, 1))), env(), env(def("a", num(1, 1)), def("f", num(2, 1), num(0, 1))),
	}
	for _, op := range []string{"par", "seq", "split", "merge", "rec"} {
		l = append(l, two(op, name("a"), name("b")))
	}
	for _, s := range operatorTexts() {
		l = append(l, operator(s))
	}
	return l
}

// refused tells that all functions take t for what is not valid.
func refused(t *testing.T, bad api.Term) {
	t.Helper()
	if term.Valid(bad) {
		t.Errorf("%#v is valid", bad)
	}
	if s, err := term.Show(bad); s != "" || err != api.ErrArg {
		t.Errorf("Show(%#v): %q, %v", bad, s, err)
	}
	if l, n := term.Free(bad), term.Size(bad); len(l) > 0 || n != 0 {
		t.Errorf("Free, Size of %#v: %v, %d", bad, l, n)
	}
	if s, err := term.Print([]api.Def{def("a", num(1, 1)), def("b", bad)}); s != "" || err != api.ErrArg {
		t.Errorf("Print of %#v: %q, %v", bad, s, err)
	}
}

// around returns terms that have t within them.
func around(t api.Term) []api.Term {
	return []api.Term{two("par", t, wire()), two("rec", wire(), t), call(t, wire()), call(wire(), wire(), t), dot(t, "a"), list(wire(), t), fun("x", t), iter("par", "i", t, wire()), iter("sum", "i", wire(), t), with(t), with(wire(), def("a", t)), with(wire(), def("a", wire()), def("f", t, name("x"))), cases(rule(t, name("x"))), cases(rule(wire(), num(0, 1)), rule(t, name("x"))), env(def("a", wire()), def("b", t))}
}

// P4.1: terms that are valid, and what is around them.
func TestValid(t *testing.T) {
	for _, v := range samples() {
		for _, v := range append(around(v), v) {
			if !term.Valid(v) {
				t.Errorf("%#v is not valid", v)
			}
		}
	}
	v := name("a")
	v.Names, v.Kids, v.Defs = []string{}, []api.Term{}, []api.Def{}
	if !term.Valid(v) || !term.Valid(api.Term{Op: "wire", Kids: []api.Term{}}) || !term.Valid(with(num(1, 1), api.Def{Name: "a", Args: []api.Term{}, Body: wire()})) {
		t.Error("empty lists are not as nil ones")
	}
	deep := num(1, 1)
	for range 3000 {
		deep = list(deep)
	}
	if !term.Valid(deep) || term.Size(deep) != 3001 {
		t.Error("a term beyond the limits is not valid")
	}
	refused(t, api.Term{})
	for _, op := range []string{"Num", "nums", "add", "neg", "iteration", "let", "fit", "delay", "+", "~", "def", "rule", " "} {
		refused(t, api.Term{Op: op})
		refused(t, api.Term{Op: op, Text: "a", Kids: []api.Term{wire(), wire()}})
	}
}

// P4.1: a field that the op does not have must be zero, and one that it has must not.
func TestFieldsOfTerms(t *testing.T) {
	for _, v := range samples() {
		for _, c := range []struct {
			field  string
			owners string
			put    func(v *api.Term)
		}{
			{"Text", "name text op dot iter", func(v *api.Term) { v.Text = "add" }}, {"Num", "num", func(v *api.Term) { v.Num = ratio.Make(1, 1) }}, {"Num", "num", func(v *api.Term) { v.Num = ratio.Make(0, 1) }}, {"Names", "fun iter", func(v *api.Term) { v.Names = []string{"x"} }},
			{"Kids", "par seq split merge rec call dot list fun iter with", func(v *api.Term) { v.Kids = []api.Term{wire()} }}, {"Kids", "par seq split merge rec call dot list fun iter with", func(v *api.Term) { v.Kids = []api.Term{wire(), wire()} }},
			{"Defs", "with case env", func(v *api.Term) { v.Defs = []api.Def{def("a", wire())} }}, {"Defs", "with case env", func(v *api.Term) { v.Defs = []api.Def{rule(wire(), num(0, 1))} }},
		} {
			if !strings.Contains(" "+c.owners+" ", " "+v.Op+" ") {
				v := copied(v)
				c.put(&v)
				refused(t, v)
			}
		}
	}
	for _, op := range strings.Fields("num name op par seq split merge rec call dot list fun iter with case") {
		refused(t, api.Term{Op: op})
	}
}

// P4.1: what each kind of term may not be.
func TestNotValid(t *testing.T) {
	l := []api.Term{
		{Op: "num", Num: api.Q{N: 2, D: 4}}, {Op: "num", Num: api.Q{N: 1}}, {Op: "num", Num: api.Q{N: 1, D: -1}}, {Op: "num", Num: api.Q{N: api.MaxNum + 1, D: 1}},
		call(name("f")), list(), {Op: "par", Kids: []api.Term{wire()}}, {Op: "rec", Kids: []api.Term{wire(), wire(), wire()}}, {Op: "dot", Text: "a"}, {Op: "dot", Text: "a", Kids: []api.Term{wire(), wire()}},
		{Op: "fun", Kids: []api.Term{wire()}}, {Op: "fun", Names: []string{"x"}}, {Op: "fun", Names: []string{"x"}, Kids: []api.Term{wire(), wire()}}, fun("x x", wire()), fun("x y x", wire()), fun("x 1", wire()), fun("x par", wire()), {Op: "fun", Names: []string{""}, Kids: []api.Term{wire()}},
		iter("par", "", num(1, 1), wire()), iter("par", "with", num(1, 1), wire()), iter("split", "i", num(1, 1), wire()), iter("", "i", num(1, 1), wire()), iter("env", "i", num(1, 1), wire()), {Op: "iter", Text: "par", Names: []string{"i", "j"}, Kids: []api.Term{wire(), wire()}}, {Op: "iter", Text: "par", Kids: []api.Term{wire(), wire()}}, {Op: "iter", Text: "par", Names: []string{"i"}, Kids: []api.Term{wire()}}, {Op: "iter", Text: "par", Names: []string{"i"}, Kids: []api.Term{wire(), wire(), wire()}},
		{Op: "with"}, {Op: "with", Defs: []api.Def{def("a", wire())}}, {Op: "with", Kids: []api.Term{wire(), wire()}}, with(wire(), rule(wire(), num(0, 1))), with(wire(), def("par", wire())), env(def("", wire())), env(def("a b", wire())), env(rule(wire(), num(0, 1))),
		cases(), cases(rule(wire())), cases(rule(wire(), num(0, 1)), rule(wire())), cases(rule(wire(), num(0, 1)), rule(wire(), num(0, 1), num(1, 1))), cases(rule(wire(), name("a"), name("b")), rule(wire(), num(1, 1))), cases(def("a", wire(), num(0, 1))), cases(rule(wire(), num(0, 1)), def("a", wire(), num(0, 1))),
		operator("neg"), operator("+"), operator("min"), operator("pick"), operator("par"), operator("ADD"), operator(""), env(api.Def{Name: "a"}), with(wire(), api.Def{Name: "a", Args: []api.Term{name("x")}}), cases(api.Def{Args: []api.Term{name("x")}}),
	}
	for _, patterns := range [][]api.Term{{name("x"), name("x")}, {num(0, 1), name("x"), num(0, 1), name("x")}, {wire()}, {text("t")}, {operator("add")}, {name("x"), list(num(1, 1))}, {api.Term{}}, {name("par")}, {{Op: "num"}}, {{Op: "num", Num: ratio.Make(1, 1), Text: "a"}}, {{Op: "name", Text: "a", Kids: []api.Term{wire()}}}, {fun("x", wire())}, {call(name("f"), name("x"))}} {
		l = append(l, with(wire(), def("f", wire(), patterns...)), env(def("f", wire(), patterns...)), cases(rule(wire(), patterns...)))
		if s, err := term.Print([]api.Def{def("f", wire(), patterns...)}); s != "" || err != api.ErrArg {
			t.Errorf("Print of the patterns %v: %q, %v", patterns, s, err)
		}
	}
	for _, v := range l {
		refused(t, v)
		for _, v := range around(v) {
			refused(t, v)
		}
	}
}

// P4.1: names and texts of terms that are none.
func TestNotNames(t *testing.T) {
	for _, s := range []string{"", "1", "1a", "_", "_a", "a b", "a-b", "a.b", " a", "a ", "a\n", "é", "aé", "a\x00", "par", "seq", "sum", "with", "case", "env", strings.Repeat("x", api.MaxName+1)} {
		for _, v := range []api.Term{name(s), dot(wire(), s), {Op: "fun", Names: []string{s}, Kids: []api.Term{wire()}}, {Op: "fun", Names: []string{"x", s}, Kids: []api.Term{wire()}}, iter("par", s, num(1, 1), wire()), with(wire(), def(s, wire())), env(def(s, wire())), env(def("f", wire(), name(s))), cases(rule(wire(), name(s)))} {
			refused(t, v)
		}
		if got, err := term.Print([]api.Def{def(s, wire())}); got != "" || err != api.ErrArg {
			t.Errorf("Print of a definition of %q: %q, %v", s, got, err)
		}
	}
	for _, s := range []string{`"`, `a"`, "\n", "\t", "a\x1fb", "\x7f", "é", "\x00", strings.Repeat("x", api.MaxName+1)} {
		refused(t, text(s))
	}
}

// P4.2: how many nodes.
func TestSize(t *testing.T) {
	for s, want := range map[string]int{
		"1": 1, "a": 1, `"t"`: 1, "_": 1, "!": 1, "+": 1, "env { }": 1, "a , b": 3, "a , b , c": 5, "((a))": 1, "f(a)": 3, "f(a, b, c)": 5, "f(a)(b)": 5, "a.b": 2, "a.b.c": 3, "[a]": 2, "[a, b]": 3, `\(x, y).(x)`: 2, "par(i, 3, i)": 3,
		"a with { }": 2, "a with { b = 1; }": 3, "a with { f(x, 0) = 1; b = 1 , 2; }": 8, "case { (0) => 1; }": 3, "case { (0, n) => 1; (n, 0) => f(n); }": 9, "env { a = 1; f(x) = x; a = 2; }": 5,
	} {
		if got := term.Size(mustExpr(t, s)); got != want {
			t.Errorf("Size of %s: got %d, want %d", s, got, want)
		}
	}
}
