package term_test

import (
	"strings"
	"testing"

	"serinette/api"
	"serinette/term"
)

// P4.2: the text of each kind, with brackets and without.
func TestShow(t *testing.T) {
	for want, v := range map[string]api.Term{
		"1": num(1, 1), "-1/2": num(-1, 2), "a_1": name("a_1"), `"a b"`: text("a b"), `""`: text(""), "_": wire(), "!": cut(),
		"(_ , !)": two("par", wire(), cut()), "(_ : !)": two("seq", wire(), cut()), "(_ <: !)": two("split", wire(), cut()), "(_ :> !)": two("merge", wire(), cut()), "(_ ~ !)": two("rec", wire(), cut()),
		"((a , b) , (c : d))": two("par", two("par", name("a"), name("b")), two("seq", name("c"), name("d"))),
		"f(1)":                call(name("f"), num(1, 1)), "f(1, (a , b), [c])": call(name("f"), num(1, 1), two("par", name("a"), name("b")), list(name("c"))), "a.b": dot(name("a"), "b"), "[1]": list(num(1, 1)), "[1, _, !]": list(num(1, 1), wire(), cut()),
		`\(x).(x)`: fun("x", name("x")), `\(x, y).((x , y))`: fun("x y", two("par", name("x"), name("y"))), "par(i, 3, i)": iter("par", "i", num(3, 1), name("i")), "seq(i, n, (_ : i))": iter("seq", "i", name("n"), two("seq", wire(), name("i"))), "sum(k, -1, [k])": iter("sum", "k", num(-1, 1), list(name("k"))),
		"(a with { a = 1; })": with(name("a"), def("a", num(1, 1))), "(a with { a = 1; f(x, 0) = (x , 1); })": with(name("a"), def("a", num(1, 1)), def("f", two("par", name("x"), num(1, 1)), name("x"), num(0, 1))), "(a with { })": with(name("a")), "((a with { b = 1; }) with { c = 2; })": with(with(name("a"), def("b", num(1, 1))), def("c", num(2, 1))),
		"case { (0) => 1; }": cases(rule(num(1, 1), num(0, 1))), "case { (0, -1) => 1; (n, m) => (n : m); }": cases(rule(num(1, 1), num(0, 1), num(-1, 1)), rule(two("seq", name("n"), name("m")), name("n"), name("m"))),
		"env { }": env(), "env { a = 1; }": env(def("a", num(1, 1))), "env { a = env { b = 1; }; f(x) = case { (x) => x; }; }": env(def("a", env(def("b", num(1, 1)))), def("f", cases(rule(name("x"), name("x"))), name("x"))),
	} {
		if got, err := term.Show(v); got != want || err != api.OK {
			t.Errorf("Show(%s): got %q, %v, want %q", dump(v), got, err, want)
		}
	}
	for i, s := range operatorTexts() {
		if got, err := term.Show(operator(s)); got != operatorSigns()[i] || err != api.OK {
			t.Errorf("Show of %s: got %q, %v", s, got, err)
		}
	}
}

// P4.2: what stands ahead of arguments and of a dot, in brackets or not.
func TestShowAhead(t *testing.T) {
	for want, v := range map[string]api.Term{
		"1/2": num(1, 2), "-3": num(-3, 1), "a": name("a"), "_": wire(), "!": cut(), "+": operator("add"), "<<": operator("shl"), "[a, b]": list(name("a"), name("b")), `"t"`: text("t"), "f(1)": call(name("f"), num(1, 1)), "a.b": dot(name("a"), "b"),
		"(a , b)": two("par", name("a"), name("b")), "(a : b)": two("seq", name("a"), name("b")), "(a <: b)": two("split", name("a"), name("b")), "(a :> b)": two("merge", name("a"), name("b")), "(a ~ b)": two("rec", name("a"), name("b")),
		`(\(x).(x))`: fun("x", name("x")), "(par(i, 2, i))": iter("par", "i", num(2, 1), name("i")), "((a with { }))": with(name("a")), "((a with { b = 1; }))": with(name("a"), def("b", num(1, 1))), "(case { (0) => 1; })": cases(rule(num(1, 1), num(0, 1))), "(env { })": env(), "(env { a = 1; })": env(def("a", num(1, 1))),
	} {
		for behind, v := range map[string]api.Term{".x": dot(v, "x"), "(x)": call(v, name("x")), "(1, 2)": call(v, num(1, 1), num(2, 1)), ".x(y).z": dot(call(dot(v, "x"), name("y")), "z")} {
			if got, err := term.Show(v); got != want+behind || err != api.OK {
				t.Errorf("Show(%s): got %q, %v, want %q", dump(v), got, err, want+behind)
			}
			if got := mustExpr(t, want+behind); !same(got, v) {
				t.Errorf("Expr(%q): got %s, want %s", want+behind, dump(got), dump(v))
			}
		}
	}
}

// P4.2: definitions, each on a line.
func TestPrint(t *testing.T) {
	for _, c := range []struct {
		defs []api.Def
		want string
	}{
		{nil, ""}, {[]api.Def{}, ""}, {[]api.Def{def("x", num(1, 1))}, "x = 1;\n"}, {[]api.Def{def("f", name("x"), name("x"))}, "f(x) = x;\n"}, {[]api.Def{def("f", name("x"), num(0, 1), name("x"), num(-1, 2))}, "f(0, x, -1/2) = x;\n"},
		{[]api.Def{def("b", two("par", num(1, 1), num(2, 1))), def("a", name("b")), def("b", wire())}, "b = (1 , 2);\na = b;\nb = _;\n"}, {[]api.Def{def("a", with(name("b"), def("b", num(1, 1)), def("c", num(2, 1)))), def("d", env())}, "a = (b with { b = 1; c = 2; });\nd = env { };\n"},
		{[]api.Def{def("f", num(1, 1), num(0, 1)), def("f", cases(rule(num(1, 1), num(0, 1)), rule(name("n"), name("n"))), name("n"))}, "f(0) = 1;\nf(n) = case { (0) => 1; (n) => n; };\n"}, {[]api.Def{def("e", operator("eq")), def("n", cut())}, "e = ==;\nn = !;\n"},
	} {
		got, err := term.Print(c.defs)
		if got != c.want || err != api.OK {
			t.Errorf("Print(%s): got %q, %v, want %q", dumpDefs(c.defs), got, err, c.want)
		}
		if back := mustParse(t, got); !sameDefs(back, c.defs) {
			t.Errorf("Parse(%q): got %s, want %s", got, dumpDefs(back), dumpDefs(c.defs))
		}
	}
	for _, defs := range [][]api.Def{{{}}, {rule(num(1, 1), num(0, 1))}, {def("a", num(1, 1)), def("1", num(1, 1))}, {def("a", api.Term{})}, {def("a", num(1, 1)), {Name: "b"}}, {def("f", num(1, 1), name("x"), name("x"))}, {def("f", num(1, 1), wire())}} {
		if got, err := term.Print(defs); got != "" || err != api.ErrArg {
			t.Errorf("Print(%v): got %q, %v", defs, got, err)
		}
	}
}

// P4.2: what is beyond the limits is printed, but not read again.
func TestPrintBeyondLimits(t *testing.T) {
	deep := num(1, 1)
	for range api.MaxNest {
		deep = list(deep)
	}
	var ones []api.Term
	for range api.MaxTerm {
		ones = append(ones, num(1, 1))
	}
	for _, v := range []api.Term{deep, list(ones...), two("par", text(strings.Repeat("x", api.MaxName)), list(append(ones, ones...)...))} {
		s, err := term.Show(v)
		if s == "" || err != api.OK {
			t.Errorf("Show: %.100q, %v", s, err)
		}
		if _, place, err := term.Expr(s); place != 0 || err != api.ErrLimit {
			t.Errorf("Expr of Show: place %d, %v", place, err)
		}
		s, err = term.Print([]api.Def{def("a", v)})
		if s == "" || err != api.OK {
			t.Errorf("Print: %.100q, %v", s, err)
		}
		if _, place, err := term.Parse(s); place != 0 || err != api.ErrLimit {
			t.Errorf("Parse of Print: place %d, %v", place, err)
		}
	}
}
