package define_test

import (
	"slices"
	"strconv"
	"strings"
	"testing"

	"serinette/api"
	"serinette/define"
)

// many returns a list of a term, so often.
func many(n int, t api.Term) api.Term {
	return api.Term{Op: "list", Kids: slices.Repeat([]api.Term{t}, n)}
}

// behind returns a term that evaluates another one, and then gives a wire: 3 steps besides.
func behind(t api.Term) api.Term {
	wire := api.Term{Op: "wire"}
	return api.Term{Op: "call", Kids: []api.Term{{Op: "fun", Names: []string{"unused"}, Kids: []api.Term{wire}}, t}}
}

// takesSteps tells that a term takes so many steps by itself, where the definitions are seen: with as many as are left ahead of it, it is a wire; with one more, it is ErrLimit there.
func takesSteps(t *testing.T, source, s string, steps int, where string) {
	t.Helper()
	defs, e := mustParse(t, source), mustExpr(t, s)
	libraries := shelf(t, [2]string{"lib", "a = 1; f(n) = n;"})
	// A list ahead of it: call, fun, list, its terms, list, the term, and the wire at last.
	left := api.MaxSteps - 5 - steps
	for more, want := range map[int]string{0: "wire", 1: "ErrLimit"} {
		ahead := many(left+more, api.Term{Op: "wire"})
		if got := told(define.Eval(defs, behind(api.Term{Op: "list", Kids: []api.Term{ahead, e}}), libraries)); got != want {
			t.Errorf("%s, %d steps and %d more: got %s, want %s", s, steps, more, got, want)
		}
	}
	// With two more, its last step is the one too many.
	ahead := many(left+2, api.Term{Op: "wire"})
	want := strings.TrimSpace("ErrLimit " + where)
	if got := told(define.Eval(defs, behind(api.Term{Op: "list", Kids: []api.Term{ahead, e}}), libraries)); got != want {
		t.Errorf("%s, two more: got %s, want %s", s, got, want)
	}
}

// P6.1: evaluation of a term is a step, when it begins.
func TestSteps(t *testing.T) {
	const source = "a = 1; b = a; c = b , b; f(n) = n; g(n) = n , n; k(0) = 1; k(n) = k((n , 1 : -)); e = env { a = 2; f(n) = n; }; h = \\(n).(n); s = case { (0) => 1; (n) => n; };"
	for _, c := range []struct {
		s     string
		steps int
		where string
	}{
		{"1", 1, ""}, {"_", 1, ""}, {"!", 1, ""}, {"+", 1, ""}, {`"t"`, 1, ""}, {"neg", 1, ""}, {"env { z = 1; y = nothing; }", 1, ""}, {`\(z).(nothing)`, 1, ""}, {"case { (0) => nothing; (1) => 2; }", 1, ""},
		{"1 , 2", 3, ""}, {"1 : _ : _", 5, ""}, {"_ <: +", 3, ""}, {"+ :> _", 3, ""}, {"+ ~ _", 3, ""}, {"[1]", 2, ""}, {"[1, 2, [3, 4]]", 6, ""},
		{"a", 2, "a"}, {"b", 3, "a"}, {"c", 8, "a"}, {"a , a", 5, "a"}, {"a , 1", 4, ""}, {"f", 1, ""}, {"k", 1, ""}, {"h", 2, "h"}, {"s", 2, "s"}, {"e", 2, "e"}, {"lib", 1, ""},
		{"e.a", 4, "a"}, {"e.f", 3, "e"}, {"lib.a", 3, "a"}, {"lib.f", 2, ""}, {"env { z = 1; }.z", 3, "z"}, {"lib.f(1)", 5, "f"}, {"e.f(1)", 6, "f"},
		{"z with { z = 1; }", 3, "z"}, {"1 with { z = 1; y = 2; }", 2, ""}, {"1 with { } with { }", 3, ""},
		{"f(1)", 4, "f"}, {"g(1)", 6, "g"}, {"f(a)", 5, "f"}, {"g(c)", 13, "g"}, {"h(1)", 5, "h"}, {"s(0)", 5, "s"}, {"s(1)", 5, "s"}, {`\(z).(z)(1)`, 4, ""}, {`\(z, y).(1)(2, 3)`, 5, ""}, {"case { (0) => 1; (1) => 2; }(1)", 4, ""}, {`\(z).(z , z)(c)`, 13, ""},
		{"k(0)", 4, "k"}, {"k(1)", 11, "k"}, {"k(2)", 18, "k"},
		{"+(1)", 3, ""}, {"neg(1)", 3, ""}, {"a(!)", 4, ""}, {"delay(1)", 3, ""}, {"delay(a)", 4, "a"}, {"vary(1, 2)", 4, ""}, {"table([1, 2])", 5, ""}, {`knob("k", 0, 0, 1, 0)`, 7, ""}, {"up(2, (_ : _))", 6, ""}, {`fix(1, 2, "near", "sat")`, 6, ""},
		{"par(i, 3, 1)", 5, ""}, {"par(i, 3, i)", 5, ""}, {"seq(i, 60, _)", 62, ""}, {"sum(i, 2, a)", 6, "a"}, {"par(i, (1 , 1 : +), i)", 8, ""}, {"par(i, 2, par(j, 2, j))", 10, ""}, {"par(i, 2, k(i))", 17, "k"},
	} {
		takesSteps(t, source, c.s, c.steps, c.where)
	}
}

// P6.1: MaxSteps steps of a term that is given, and one more.
func TestMaxSteps(t *testing.T) {
	for n, want := range map[int]string{api.MaxSteps - 4: "wire", api.MaxSteps - 3: "ErrLimit", api.MaxSteps: "ErrLimit", 3 * api.MaxSteps: "ErrLimit"} {
		for _, leaf := range []api.Term{{Op: "wire"}, {Op: "cut"}, {Op: "text"}, {Op: "env"}} {
			if got := told(define.Eval(nil, behind(many(n, leaf)), nil)); got != want {
				t.Errorf("%d of %s: got %s, want %s", n, leaf.Op, got, want)
			}
		}
	}
	if got := told(define.Eval(nil, many(api.MaxSteps-1, name("neg")), nil)); got != "ErrArg" {
		t.Errorf("a list alone: got %s", got)
	}
	if got := told(define.Eval(nil, api.Term{Op: "list", Kids: []api.Term{many(api.MaxSteps, name("neg")), name("y")}}, nil)); got != "ErrLimit" {
		t.Errorf("ahead of a name that is not bound: got %s", got)
	}
	if got := told(define.Eval(nil, api.Term{Op: "list", Kids: []api.Term{name("y"), many(api.MaxSteps, name("neg"))}}, nil)); got != "ErrName" {
		t.Errorf("behind a name that is not bound: got %s", got)
	}
	// What is reached by the step that is one too many is not looked at.
	twice := mustExpr(t, "1 with { a = 1; a = 2; }")
	for n, want := range map[int]string{api.MaxSteps - 3: "ErrTwice", api.MaxSteps - 2: "ErrLimit"} {
		if got := told(define.Eval(nil, api.Term{Op: "list", Kids: []api.Term{many(n, name("neg")), twice}}, nil)); got != want {
			t.Errorf("%d ahead of definitions twice: got %s, want %s", n, got, want)
		}
	}
	// An a takes 3256 steps: its name, 2 and 1 of the outer f, 2 of par, and 50 times 65.
	sources(t,
		[2]string{"x = f([a, a, a, a, a, a]); a = f(par(i, 50, f(seq(j, 60, _)))); f(n) = _;", "wire"},
		[2]string{"x = f([a, a, a, a, a, a, a]); a = f(par(i, 50, f(seq(j, 60, _)))); f(n) = _;", "ErrLimit a"},
	)
}

// P6.1: evaluations within one another, and one too many.
func TestDepth(t *testing.T) {
	one := api.Term{Op: "num", Num: api.Q{N: 1, D: 1}}
	iter := func(often, body api.Term) api.Term {
		return api.Term{Op: "iter", Text: "par", Names: []string{"i"}, Kids: []api.Term{often, body}}
	}
	for what, wrap := range map[string]func(e api.Term) api.Term{
		"with":   func(e api.Term) api.Term { return api.Term{Op: "with", Kids: []api.Term{e}} },
		"seq":    func(e api.Term) api.Term { return api.Term{Op: "seq", Kids: []api.Term{{Op: "text"}, e}} },
		"par":    func(e api.Term) api.Term { return api.Term{Op: "par", Kids: []api.Term{e, name("y")}} },
		"list":   func(e api.Term) api.Term { return api.Term{Op: "list", Kids: []api.Term{one, e, name("y")}} },
		"dot":    func(e api.Term) api.Term { return api.Term{Op: "dot", Text: "a", Kids: []api.Term{e}} },
		"called": func(e api.Term) api.Term { return api.Term{Op: "call", Kids: []api.Term{e, name("y")}} },
		"given":  func(e api.Term) api.Term { return api.Term{Op: "call", Kids: []api.Term{name("neg"), e}} },
		"taken":  func(e api.Term) api.Term { return api.Term{Op: "call", Kids: []api.Term{name("delay"), e}} },
		"often":  func(e api.Term) api.Term { return iter(e, name("y")) },
		"body":   func(e api.Term) api.Term { return iter(one, e) },
	} {
		e, inner := name("nothing"), name("neg")
		for depth := 1; depth < 203; depth++ {
			want := map[bool]string{true: "ErrName", false: "ErrLimit"}[depth <= 200]
			if got := told(define.Eval(nil, e, nil)); got != want {
				t.Errorf("%s, %d deep: got %s, want %s", what, depth, got, want)
			}
			if what == "with" || what == "body" {
				want := map[bool]string{true: "neg", false: "ErrLimit"}[depth <= 200]
				if got := told(define.Eval(nil, inner, nil)); got != want {
					t.Errorf("%s, %d deep: got %s, want %s", what, depth, got, want)
				}
			}
			e, inner = wrap(e), wrap(inner)
		}
	}
}

// P6.1: the bodies of definitions, functions and rules are within what evaluates them; where, is the definition that the innermost one is of.
func TestDepthOfBodies(t *testing.T) {
	// Each definition is a name, within which its body is evaluated.
	chain := func(n int, last string) string {
		var w strings.Builder
		for i := range n {
			w.WriteString("a" + strconv.Itoa(i) + " = a" + strconv.Itoa(i+1) + "; ")
		}
		return w.String() + "a" + strconv.Itoa(n) + " = " + last + "; x = a0;"
	}
	sources(t,
		[2]string{chain(197, "1"), "(num 1)"}, [2]string{chain(198, "1"), "ErrLimit a198"}, [2]string{chain(199, "1"), "ErrLimit a198"},
		[2]string{chain(196, "1 , 2"), "(par (num 1) (num 2))"}, [2]string{chain(197, "1 , 2"), "ErrLimit a197"}, [2]string{chain(197, "1 with { y = 1; }"), "ErrLimit a197"}, [2]string{chain(197, "f(1)") + " f(n) = n;", "ErrLimit a197"}, [2]string{chain(196, "f(1)") + " f(n) = n;", "(num 1)"}, [2]string{chain(196, "f(1)") + " f(n) = n , n;", "ErrLimit f"},
	)
	// Each time what is counted down is 2 deeper, from 1 on.
	const count = "k(0) = 1; k(n) = k((n , 1 : -)); "
	sources(t,
		[2]string{count + "x = k(29);", "(num 1)"}, [2]string{count + "x = k(30);", "ErrLimit k"},
		[2]string{"x = x;", "ErrLimit x"}, [2]string{"x = y; y = x;", "ErrLimit y"}, [2]string{"x = y; y = z; z = x;", "ErrLimit y"}, [2]string{"x = _ , x;", "ErrLimit x"}, [2]string{"x = x : y;", "ErrLimit x"}, [2]string{"x = [x];", "ErrLimit x"}, [2]string{"x = x.y;", "ErrLimit x"}, [2]string{"x = x(1);", "ErrLimit x"}, [2]string{"x = f(x); f(n) = 1;", "ErrLimit x"}, [2]string{"x = x with { };", "ErrLimit x"}, [2]string{"x = par(i, x, i);", "ErrLimit x"}, [2]string{"x = par(i, 2, x);", "ErrLimit x"}, [2]string{"x = 1; y = y;", "(num 1)"},
		[2]string{"x = f(1); f(n) = f(n);", "ErrLimit f"}, [2]string{"x = f(1); f(n) = n : f(n);", "ErrLimit f"}, [2]string{"x = f(1); f(n) = g(n); g(n) = f(n);", "ErrLimit g"}, [2]string{"x = f(_); f(n) = f((n : _));", "ErrLimit f"}, [2]string{`x = f(f); f = \(g).(g(g));`, "ErrLimit f"}, [2]string{`x = \(g).(g(g))(\(g).(g(g)));`, "ErrLimit x"}, [2]string{"x = e.a; e = env { a = e.a; };", "ErrLimit e"}, [2]string{"x = y with { y = z; z = y; };", "ErrLimit z"}, [2]string{"x = y; y = z , y; z = 1;", "ErrLimit z"}, [2]string{"x = f(3); f(0) = 1; f(n) = f((n , 2 : -));", "ErrLimit f"}, [2]string{"x = f(1); f = case { (0) => 1; (n) => f(n); };", "ErrLimit f"},
	)
	libraries := shelf(t, [2]string{"l", "a = k.a; b = l.b;"}, [2]string{"k", "a = l.a;"})
	for s, want := range map[string]string{"l.a": "ErrLimit a", "l.b": "ErrLimit b"} {
		if got := told(define.Eval(nil, mustExpr(t, s), libraries)); got != want {
			t.Errorf("%s: got %s", s, got)
		}
	}
	// An endless one that doubles comes to its depth, one that goes on by the side to its steps.
	sources(t, [2]string{"x = y , y; y = [x, x];", "ErrLimit y"}, [2]string{"x = f(15); f(0) = _; f(n) = g(f((n , 1 : -)), f((n , 1 : -))); g(a, b) = a;", "ErrLimit f"})
}
