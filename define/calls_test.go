package define_test

import (
	"strings"
	"testing"

	"serinette/api"
)

// P6.1: functions of a fun.
func TestFunctions(t *testing.T) {
	bodies(t,
		[2]string{`\(a).(a)(1)`, "(num 1)"}, [2]string{`\(a, b).(b , a)(1, 2)`, "(par (num 2) (num 1))"}, [2]string{`\(a, b, c).(c)(1, 2, 3)`, "(num 3)"}, [2]string{`\(a).(_)(1)`, "wire"}, [2]string{`\(a).(a)((_ , !))`, "(par wire cut)"},
		[2]string{`\(f).(f(1))(neg)`, "(seq (num 1) neg)"}, [2]string{`\(f).(f(1))(\(a).(a , a))`, "(par (num 1) (num 1))"}, [2]string{`\(t).(show(t))("p")`, `(show "p")`}, [2]string{`\(l).(table(l))([1, 2])`, "(table 1 2)"}, [2]string{`\(e).(e.a)(env { a = 1; })`, "(num 1)"},
		[2]string{`\(a).(\(b).(a , b))(1)(2)`, "(par (num 1) (num 2))"}, [2]string{`\(a).(\(a).(a))(1)(2)`, "(num 2)"}, [2]string{`(\(a).(\(b).(a)))(1)(2)`, "(num 1)"}, [2]string{`par(i, 2, \(a).(a , i)(5))`, "(par (par (num 5) (num 0)) (par (num 5) (num 1)))"},
		[2]string{`\(f, g).(f(g))(\(h).(h(1)), \(a).(a , 2))`, "(par (num 1) (num 2))"}, [2]string{`\(f).(f(f))(\(f).(3))`, "(num 3)"},
	)
	refused(t, api.ErrArg, `\(a).(a)(1, 2)`, `\(a, b).(a)(1)`, `\(a, b).(a)(1)(2)`, `\(a, b).(a)(1, 2, 3)`, `\(a).(y)(1, 2)`, "case { (0) => 1; }(0, 0)", "case { (0, 0) => 1; }(0)", "case { (0, n) => y; (n, 0) => y; }(0)", "case { (n) => y; }(1, 2)", "f(1, 2) with { f(n) = n; }", "f(1) with { f(a, b) = a; }", "f(1, 2) with { f(0) = 1; f(n) = n; }")
	refused(t, api.ErrLimit, `\(f).(f(f))(\(f).(f(f)))`)
	sources(t,
		[2]string{"x = f(1); f(a) = g(a, a); g(a, b) = a , b;", "(par (num 1) (num 1))"}, [2]string{"x = f(1); f(a) = g(a); g(a, b) = a;", "ErrArg f"}, [2]string{"x = f(1, 2); f(a) = y;", "ErrArg x"},
		[2]string{`x = f(1); f = \(a).(y);`, "ErrName f"}, [2]string{`x = f(1)(2); f(a) = \(b).(y);`, "ErrName f"}, [2]string{`x = f(1); f = g; g = \(a).(y);`, "ErrName g"}, [2]string{"x = f(1); f = case { (a) => y; };", "ErrName f"}, [2]string{"x = f(1)(2); f(a) = case { (b) => y; };", "ErrName f"}, [2]string{`x = f(\(a).(y)); f(g) = g(1);`, "ErrName x"}, [2]string{`x = f(\(a).(a)); f(g) = g(1, 2);`, "ErrArg f"}, [2]string{"x = f(case { (0) => 1; }); f(g) = g(1);", "ErrMatch f"}, [2]string{"x = f(g); f(h) = h(2); g(0) = 1;", "ErrMatch f"}, [2]string{"x = f(g); f(h) = h(2); g(n) = n , y;", "ErrName g"}, [2]string{`x = \(a).(f(a))(1); f(a) = a : 1;`, "ErrPorts f"}, [2]string{`x = e.f(1); e = env { f(n) = y; };`, "ErrName f"}, [2]string{`x = e.f(1); e = env { f = \(n).(y); };`, "ErrName f"}, [2]string{`x = e.f(1); e = env { f = g; }; g(n) = \(m).(y)(n);`, "ErrName g"}, [2]string{`x = f(1) with { f(n) = g(n) with { g(n) = h(n) with { h(n) = y; }; }; };`, "ErrName h"}, [2]string{`x = f(1) with { f(n) = (g(n) with { g(n) = 1; }) , y; };`, "ErrName f"},
	)
}

// P6.1: rules, of a case and of definitions: the first one that fits.
func TestRules(t *testing.T) {
	const rules = "(0) => 10; (1/2) => 11; (-1) => 12; (n) => n , n; (3) => 13;"
	const definitions = "f(0) = 10; f(0.5) = 11; f(-1) = 12; f(n) = n , n; f(3) = 13;"
	for given, want := range map[string]string{
		"0": "(num 10)", "1/2": "(num 11)", "0.5": "(num 11)", "-1": "(num 12)", "1": "(par (num 1) (num 1))", "3": "(par (num 3) (num 3))",
		"1 , 1 : -": "(num 10)", "0 :> _": "(num 10)", "0 <: _": "(num 10)", "0 : _": "(num 10)", "1 : neg": "(num 12)", "not(1)": "(num 10)", "1 , 2 : /": "(num 11)", "-(2, 3)": "(num 12)", "1 , 0 : ! , _": "(num 10)", "sum(i, 1, i)": "(num 10)", "sum(i, 2, -1/2)": "(num 12)", "fix(1, 1, \"zero\", \"sat\")(-5/4)": "(num 12)", "pick(0, 0, 1)": "(num 10)",
		"_": "(par wire wire)", "!": "(par cut cut)", "delay(1)": "(par (delay 1) (delay 1))", "0 , 0": "(par (par (num 0) (num 0)) (par (num 0) (num 0)))", "1 , 0 : /": "(par (seq (par (num 1) (num 0)) div) (seq (par (num 1) (num 0)) div))", "0 : delay(0)": "(par (seq (num 0) (delay 0)) (seq (num 0) (delay 0)))", "+(0)": "(par (seq (par (num 0) wire) add) (seq (par (num 0) wire) add))", "wave([0])": "(par (wave 0) (wave 0))",
		`"0"`: "ErrArg", "[0]": "ErrArg", "env { }": "ErrArg", `\(a).(0)`: "ErrArg", "y": "ErrName",
	} {
		where := map[bool]string{true: " x"}[strings.HasPrefix(want, "Err")]
		if want == "ErrArg" {
			sources(t, [2]string{"x = f((" + given + ")); " + definitions, "ErrArg f"})
		} else {
			sources(t, [2]string{"x = f((" + given + ")); " + definitions, want + where})
		}
		sources(t, [2]string{"x = case { " + rules + " }((" + given + "));", want + where})
		sources(t, [2]string{"x = (e.f)((" + given + ")) with { e = env { f = case { " + rules + " }; }; };", map[bool]string{true: "ErrArg f", false: want + where}[want == "ErrArg"]})
	}
	sources(t,
		[2]string{"x = f(0, 0) , f(0, 5) , f(5, 0) , f(5, 6); f(0, 0) = 1; f(0, n) = n; f(n, 0) = n , n; f(n, m) = m;", "(par (par (par (num 1) (num 5)) (par (num 5) (num 5))) (num 6))"},
		[2]string{"x = f(_, 0); f(0, n) = 1; f(n, 0) = n;", "wire"}, [2]string{`x = f("t", 0); f(0, n) = 1; f(n, 0) = show(n);`, `(show "t")`}, [2]string{"x = f(g, 0); f(0, n) = 1; f(n, 0) = n(2); g(a) = a , a;", "(par (num 2) (num 2))"}, [2]string{"x = f([1, 2], 1); f(0, n) = 1; f(l, 1) = table(l);", "(table 1 2)"}, [2]string{"x = f(env { a = 4; }); f(0) = 1; f(e) = e.a;", "(num 4)"},
		[2]string{"x = f(0, 7, 0); f(0, n, 0) = n;", "(num 7)"}, [2]string{"x = f(0, 7, 1); f(0, n, 0) = n; f(n, 7, 1) = 8; f(a, b, c) = 9;", "(num 8)"},
		[2]string{"x = f(0); f(n) = 1; f(0) = 2;", "(num 1)"}, [2]string{"x = case { (n) => 1; (0) => 2; }(0);", "(num 1)"}, [2]string{"x = case { (0) => 1; (0) => 2; }(0);", "(num 1)"},
		[2]string{"x = f(0); f(0) = y; f(n) = 2;", "ErrName f"}, [2]string{"x = f(1); f(0) = y; f(n) = 2;", "(num 2)"}, [2]string{"x = f(1); f(n) = y; f(0) = 2;", "ErrName f"},
		[2]string{"x = f(3); f(0) = 1; f(1) = 2;", "ErrMatch x"}, [2]string{"x = g(3); g(n) = f(n); f(0) = 1;", "ErrMatch g"}, [2]string{"x = y; y = f(_); f(0) = 1;", "ErrMatch y"}, [2]string{`x = f("t"); f(0) = 1;`, "ErrMatch x"}, [2]string{"x = f(f); f(0) = 1;", "ErrMatch x"}, [2]string{"x = f([0]); f(0) = 1;", "ErrMatch x"}, [2]string{"x = f(1, 0); f(0, n) = 1; f(2, n) = 3;", "ErrMatch x"}, [2]string{"x = f((1 , 0 : /)); f(0) = 1;", "ErrMatch x"}, [2]string{"x = f((0 , 0)); f(0) = 1;", "ErrMatch x"},
		[2]string{"x = case { (0) => 1; }(y);", "ErrName x"}, [2]string{"x = case { (0) => 1; }(1)(y);", "ErrMatch x"}, [2]string{"x = case { (0) => 1; }(1, y);", "ErrName x"},
	)
	refused(t, api.ErrMatch, "case { (0) => 1; }(1)", "case { (0) => 1; (1) => y; }(1/3)", `case { (0, n) => 1; (1, n) => n; }("t", 1)`, "case { (0) => y; }(delay(0))", "case { (0) => y; }(_)", "case { (0) => 1; }((0 : delay(0)))", "case { (1) => 1; }(knob(\"k\", 1, 1, 1, 0))")
}

// P6.1: iter: par, seq and sum, how often, and what the body must be.
func TestIter(t *testing.T) {
	bodies(t,
		[2]string{"par(i, 1, i)", "(num 0)"}, [2]string{"par(i, 2, i)", "(par (num 0) (num 1))"}, [2]string{"par(i, 3, i)", "(par (par (num 0) (num 1)) (num 2))"}, [2]string{"par(i, 2, !)", "(par cut cut)"}, [2]string{"par(i, 2, (i , _))", "(par (par (num 0) wire) (par (num 1) wire))"},
		[2]string{"seq(i, 1, delay(i))", "(delay 0)"}, [2]string{"seq(i, 3, delay(i))", "(seq (seq (delay 0) (delay 1)) (delay 2))"}, [2]string{"seq(i, 1, (1 , 2))", "(par (num 1) (num 2))"}, [2]string{"seq(i, 2, (i : !))", "(seq (seq (num 0) cut) (seq (num 1) cut))"},
		[2]string{"sum(i, 1, i)", "(num 0)"}, [2]string{"sum(i, 2, i)", "(merge (par (num 0) (num 1)) wire)"}, [2]string{"sum(i, 3, delay(i))", "(merge (par (par (delay 0) (delay 1)) (delay 2)) wire)"}, [2]string{"sum(i, 2, +)", "(merge (par add add) wire)"}, [2]string{"sum(i, 1, +)", "add"},
		[2]string{"par(i, (1 , 1 : +), i)", "(par (num 0) (num 1))"}, [2]string{"par(i, sum(j, 3, j), 5)", "(par (par (num 5) (num 5)) (num 5))"}, [2]string{"par(i, n, i) with { n = 2; }", "(par (num 0) (num 1))"},
		[2]string{"par(i, 2, seq(j, 2, delay((i , j : +))))", "(par (seq (delay 0) (delay 1)) (seq (delay 1) (delay 2)))"},
		[2]string{"seq(i, 2, par(i, 2, delay(i)))", "(seq (par (delay 0) (delay 1)) (par (delay 0) (delay 1)))"}, [2]string{"par(i, 3, f(i)) with { f(0) = !; f(n) = n; }", "(par (par cut (num 1)) (num 2))"},
	)
	refused(t, api.ErrNumber, "par(i, 0, i)", "par(i, -1, i)", "par(i, 65, i)", "par(i, 1/2, i)", "par(i, 3/2, i)", "seq(i, 0, _)", "sum(i, 65, 1)", "par(i, 1073741824, i)", "par(i, -1073741824, i)", "par(i, _, i)", "par(i, !, i)", "par(i, (1 , 2), i)", "par(i, delay(1), i)", "par(i, (1 : delay(0)), i)", `par(i, "3", i)`, "par(i, [3], i)", "par(i, env { }, i)", `par(i, \(a).(a), i)`, "par(i, (1 , 0 : /), i)", "par(i, +(1), i)", "par(i, 0, y)", "par(i, 64.5, i)", "sum(i, 1.5, (1 , 2))")
	refused(t, api.ErrName, "par(i, y, i)", "par(i, i, z)", "par(i, 2, y)", "seq(i, y, z)", "sum(i, 2, y)")
	refused(t, api.ErrArg, `par(i, 1, "t")`, "par(i, 1, [1])", "seq(i, 1, env { })", `sum(i, 1, \(a).(a))`, "par(i, 2, case { (0) => 1; })", "par(i, 1, delay)", "par(i, delay, 1)", `par(i, 3, case { (0) => 1; (1) => "t"; (2) => y; }(i))`, `sum(i, 2, "t")`)
	refused(t, api.ErrMatch, `par(i, 3, case { (0) => 1; (2) => "t"; }(i))`, "seq(i, 2, case { (0) => _ , _; }(i))", "sum(i, 2, case { (0) => _ , _; }(i))")
	refused(t, api.ErrPorts, "seq(i, 2, (1 , 2))", "seq(i, 2, i)", "seq(i, 2, !)", "seq(i, 2, case { (0) => _ , _; (n) => _; }(i))", "sum(i, 1, (1 , 2))", "sum(i, 1, !)", "sum(i, 2, !)", "sum(i, 2, (_ , _))", "sum(i, 2, case { (0) => !; (n) => 1 , 2; }(i))", "sum(i, 2, case { (0) => 1; (n) => !; }(i))", "sum(i, 64, (1 , 2))", "sum(i, 3, case { (2) => 1 , 2; (n) => 3; }(i))", "par(i, 2, (i : i))")
	sources(t,
		[2]string{"x = par(i, n, z); n = a; z = b;", "ErrName n"}, [2]string{"x = par(i, n, z); n = 0; z = b;", "ErrNumber x"}, [2]string{"x = par(i, n, z); n = 2; z = b;", "ErrName z"}, [2]string{"x = par(i, n, f(i)); n = 2; f(0) = 1;", "ErrMatch x"}, [2]string{"x = y; y = par(i, 2, [i]);", "ErrArg y"}, [2]string{"x = y; y = sum(i, 2, !);", "ErrPorts y"}, [2]string{"x = y; y = par(i, 61, _);", "ErrLimit y"}, [2]string{`x = par(i, 3, f(i)); f(1) = "t"; f(2) = y; f(n) = 1;`, "ErrArg x"},
	)
}

// P6.1: calls of blocks: what is put ahead of their ins.
func TestCallsOfBlocks(t *testing.T) {
	bodies(t,
		[2]string{"_(1)", "(seq (num 1) wire)"}, [2]string{"+(1, 2)", "(seq (par (num 1) (num 2)) add)"}, [2]string{"+(_)", "(seq (par wire wire) add)"}, [2]string{"+((1 , 2))", "(seq (par (num 1) (num 2)) add)"}, [2]string{"pick(1)", "(seq (par (par (num 1) wire) wire) pick)"}, [2]string{"pick(1, 2)", "(seq (par (par (num 1) (num 2)) wire) pick)"}, [2]string{"pick((1 , 2), 3)", "(seq (par (par (num 1) (num 2)) (num 3)) pick)"},
		[2]string{"-(1)(2)", "(seq (num 2) (seq (par (num 1) wire) sub))"}, [2]string{"+(!)", "(seq (par (par cut wire) wire) add)"}, [2]string{"+(!, 1)", "(seq (par (par cut (num 1)) wire) add)"}, [2]string{"1(!)", "(seq cut (num 1))"}, [2]string{"1(!, !)", "(seq (par cut cut) (num 1))"}, [2]string{"!(1)", "(seq (num 1) cut)"}, [2]string{"+(+, +)", "(seq (par add add) add)"},
		[2]string{"neg(1)", "(seq (num 1) neg)"}, [2]string{"min(1)", "(seq (par (num 1) wire) min)"}, [2]string{"delay(3)(1)", "(seq (num 1) (delay 3))"}, [2]string{"(_ , _)(1)", "(seq (par (num 1) wire) (par wire wire))"}, [2]string{"(+ ~ delay(1))(5)", "(seq (num 5) (rec add (delay 1)))"}, [2]string{"gate(_)(1, 2)", "(seq (par (num 1) (num 2)) (gate wire))"}, [2]string{`show("a")(1)`, `(seq (num 1) (show "a"))`}, [2]string{"store([1])(2)", "(seq (par (par (num 2) wire) wire) (store 1))"}, [2]string{"par(i, 4, _)(1, 2)", "(seq (par (par (par (num 1) (num 2)) wire) wire) (par (par (par wire wire) wire) wire))"},
		[2]string{"1(! , 2 : !)", "(seq (par cut (seq (num 2) cut)) (num 1))"},
	)
	refused(t, api.ErrPorts, "1(2)", "!(1, 2)", "_((1 , 2))", "+(1, 2, 3)", "+((1 , 2), 3)", "neg(1, 2)", "pick(1, 2, 3, 4)", "wave([1])(2)", `knob("k", 0, 0, 1, 0)(1)`, "1(_)", "(_ , !)(1, 2, !, 3)", "+(par(i, 60, 1), par(i, 60, 1))", "_(par(i, 60, _), par(i, 60, _))")
	refused(t, api.ErrArg, `_("t")`, "_([1])", "_(env { })", `_(\(a).(a))`, `+(1, "t")`, `+("t", 1)`, `+(1, 2, 3, "t")`, "_(delay)", `"t"(1)`, `"t"("t")`, "[1](1)", "[1, 2](0)", "(env { })(1)", "env { a = 1; }(1)", "(env { a = neg; })(1)", `_("t", 2, 3)`)
	refused(t, api.ErrName, `"t"(y)`, "[1](y)", "env { }(y)", `_(y)`, `_("t", y)`, "_(1, 2, y)", "1(y)", `\(a).(a)(1, y)`, "case { (0) => 1; }(1, y)", "y(z)", "_([1], y)", "y(1 : 1)")
	refused(t, api.ErrLimit, "par(i, 60, _)(1)", "+(seq(i, 60, _))", "(_ : seq(i, 59, _))(1)")
	sources(t, [2]string{"x = a(b, c); a = _ : 1; b = y; c = z;", "ErrPorts a"}, [2]string{`x = a(b, c); a = "t"; b = y; c = z;`, "ErrName b"}, [2]string{`x = a(b, c); a = "t"; b = 1; c = z;`, "ErrName c"}, [2]string{`x = a(b); a = "t"; b = 1;`, "ErrArg x"}, [2]string{"x = y; y = 1(2);", "ErrPorts y"}, [2]string{`x = y; y = _("t");`, "ErrArg y"})
	refused(t, api.ErrLimit, "(par(i, 32, _) , par(i, 32, _))(1)")
}

// builtIns are calls of built-ins, and the blocks that they are.
func builtIns() map[string]string {
	return map[string]string{
		"delay(3)": "(delay 3)", "delay(0)": "(delay 0)", "delay(4096)": "(delay 4096)", "vary(0, 4096)": "(vary 0 4096)", "vary(2, 2)": "(vary 2 2)", "table([1])": "(table 1)", "table([1/2, -1, 3])": "(table 1/2 -1 3)", "store([0, 0])": "(store 0 0)", "wave([1, 2])": "(wave 1 2)",
		`knob("a/gain", 1, 0, 2, 1/10)`: `(knob "a/gain" 1 0 2 1/10)`, `knob("A-1_", 0, 0, 0, 0)`: `(knob "A-1_" 0 0 0 0)`, `show("a")`: `(show "a")`, `fix(1, 2, "near", "sat")`: "(fit fix(1,2,near,sat))", `fix(0, 30, "floor", "wrap")`: "(fit fix(0,30,floor,wrap))", `float(2, 1, "zero", "none")`: "(fit float(2,1,zero,none))",
		"up(2, _)": "(up 2 wire)", "down(8, +)": "(down 8 add)", "up(1, 5)": "(up 1 (num 5))", "gate(_)": "(gate wire)", "gate((_ , !))": "(gate (par wire cut))", "reset(+ ~ delay(1))": "(reset (rec add (delay 1)))", "gate(!)": "(gate cut)",
		"delay((1 , 2 : +))": "(delay 3)", "delay(+(1, 2))": "(delay 3)", "vary(1/1, floor(2.5))": "(vary 1 2)", "table([neg(1), (1 , 3 : /)])": "(table -1 1/3)",
	}
}

// P6.1: built-ins with arguments.
func TestBuiltIns(t *testing.T) {
	for s, want := range builtIns() {
		name, args, _ := strings.Cut(s, "(")
		bodies(t, [2]string{s, want}, [2]string{"(" + name + ")(" + args, want}, [2]string{"y with { y = " + s + "; }", want}, [2]string{"f(1) with { f(n) = " + s + "; }", want}, [2]string{"(" + s + ") , y", "ErrName x"})
		refused(t, api.ErrArg, name, "("+name+")", name+" : y", "["+name+"]", name+".a", name+" with { }", "("+name+" with { })("+args, "f("+name+") with { f(n) = n; }", `\(a).(a)(`+name+")", "case { (0) => 1; }("+name+")", name+"("+name+")", "("+strings.TrimSuffix(s, ")")+", 1))", "("+strings.TrimSuffix(s, ")")+`, "t"))`, "("+strings.TrimSuffix(s, ")")+", [1]))")
		refused(t, api.ErrName, "y , "+name, strings.TrimSuffix(s, ")")+", y)", name+"(y)", "e."+name+"("+args+" with { e = env { }; }")
		sources(t, [2]string{"x = y; y = " + name + ";", "ErrArg y"}, [2]string{"x = y(" + args + "; y = " + name + ";", "ErrArg y"}, [2]string{"x = " + name + "(y); y = " + name + ";", "ErrArg y"}, [2]string{"x = y; y = " + name + "(1, 1, 1, 1, 1, 1);", "ErrArg y"})
	}
}

// P6.1: built-ins with other numbers of arguments than they take; that comes ahead of their sorts, and behind their evaluation.
func TestNumbersOfArguments(t *testing.T) {
	for name, n := range map[string]int{"delay": 1, "vary": 2, "table": 1, "store": 1, "wave": 1, "knob": 5, "show": 1, "fix": 4, "float": 4, "up": 2, "down": 2, "gate": 1, "reset": 1} {
		for m := 1; m < 8; m++ {
			if m == n {
				continue
			}
			for _, arg := range []string{"1", "_", `"a"`, "[1]", "[_]", "env { }", "1/2"} {
				refused(t, api.ErrArg, name+"("+strings.Repeat(arg+", ", m-1)+arg+")")
			}
			refused(t, api.ErrName, name+"("+strings.Repeat("1, ", m-1)+"y)", name+"("+strings.Repeat("_, ", m-1)+"y)")
		}
	}
}

// P6.1: what the arguments of built-ins must be, asked for from the left.
func TestSortsOfArguments(t *testing.T) {
	refused(t, api.ErrNumber,
		"delay(1/2)", "delay(_)", `delay("3")`, "delay([3])", "delay(env { })", `delay(\(a).(a))`, "delay((1 , 2))", "delay((1 , 0 : /))", "delay(delay(1))", "delay((3 : delay(0)))", "delay(!)", "delay(-1/2)", "delay(+)", `delay(knob("k", 1, 1, 1, 0))`, "delay((wave([3])))",
		"vary(1/2, 3)", "vary(1, 7/2)", "vary(_, 3)", "vary(1, _)", `vary("a", 3)`, `vary(1, "b")`, `vary(1/2, "b")`, "table([_])", "table([1, !])", `table(["1"])`, "table([1, [2]])", "store([1, 2, delay(1)])", "wave([(1 , 0 : /)])", "wave([env { }])", "table([1, (1 , 2)])",
		`knob("a", _, 0, 1, 0)`, `knob("a", 0, _, 1, 0)`, `knob("a", 0, 0, _, 0)`, `knob("a", 0, 0, 1, _)`, `knob("a", 0, 0, 1, (1 , 0 : /))`, `knob("a", "b", 0, 1, 0)`, `knob("a", 0, 0, 1, "b")`, `knob("a", 0, [1], 1, 0)`, `knob("", _, 0, 1, 0)`,
		`fix(1/2, 2, "near", "sat")`, `fix(1, _, "near", "sat")`, `fix("near", 2, 1, "sat")`, "fix(1, _, 2, 3)", `float(1.5, 1, "near", "sat")`, `float(1, "near", 1, 2)`, `float(1, 1/2, "near", "sat")`, "up(_, _)", "up(1/2, _)", `up("1", "e")`, `down(_, "e")`, "down([1], _)", `down(3/2, "e")`, "up(_, [1])",
	)
	refused(t, api.ErrArg,
		"table(1)", "table(_)", `table("t")`, "table(env { })", `table(\(a).(a))`, "store((1 , 2))", "wave(1)", "wave(neg)", "show(1)", "show(_)", "show([1])", "show(env { })", `show(\(a).(a))`, `show(["a"])`, "knob(1, 0, 0, 1, 0)", "knob(_, _, 0, 1, 0)", `knob(["a"], "b", 0, 1, 0)`,
		`fix(1, 2, 3, "sat")`, `fix(1, 2, "near", 4)`, `fix(1, 2, near_, "sat") with { near_ = _; }`, `fix(1, 2, ["near"], "sat")`, `float(1, 2, 3, "sat")`, `float(1, 2, "near", _)`, `up(1, "e")`, "up(1, [_])", "down(2, env { })", `down(2, \(a).(a))`, `gate("e")`, "gate([_])", "reset(env { })", `reset(\(a).(a))`, "gate(case { (0) => 1; })",
	)
	refused(t, api.ErrName, `delay(y)`, "vary(_, y)", "table(y)", "table([_, y])", "fix(1, 2, near, sat)", `fix(_, 2, "near", y)`, "up(_, y)", "gate(y)", `knob("a", _, 0, y, 0)`, "knob(1, 2, 3, 4, y)")
	sources(t, [2]string{"x = y; y = delay(_);", "ErrNumber y"}, [2]string{"x = f(_); f(n) = delay(n);", "ErrNumber f"}, [2]string{"x = y; y = show(1);", "ErrArg y"}, [2]string{"x = f(5000); f(n) = delay(n);", "ErrArg f"}, [2]string{"x = table(l); l = [1, y]; y = z;", "ErrName y"})
}

// P6.1: fields that block.Ports refuses.
func TestFieldsOfBuiltIns(t *testing.T) {
	long := strings.Repeat("a", api.MaxName)
	bodies(t, [2]string{`show("` + long + `")`, `(show "` + long + `")`}, [2]string{"table(l) with { l = [" + strings.Repeat("1, ", api.MaxTable-1) + "1]; }", "(table" + strings.Repeat(" 1", api.MaxTable) + ")"})
	refused(t, api.ErrArg,
		"delay(-1)", "delay(4097)", "delay(1073741824)", "vary(-1, 3)", "vary(3, 2)", "vary(0, 4097)", "vary(-2, -1)", "table(l) with { l = ["+strings.Repeat("1, ", api.MaxTable)+"1]; }", "store(l) with { l = ["+strings.Repeat("1, ", api.MaxTable)+"1]; }", "wave(l) with { l = ["+strings.Repeat("1, ", api.MaxTable)+"1]; }",
		`show("")`, `show("a b")`, `show("a.b")`, `show("a*")`, `knob("", 0, 0, 1, 0)`, `knob("a b", 0, 0, 1, 0)`, `knob("a", 2, 0, 1, 0)`, `knob("a", -1, 0, 1, 0)`, `knob("a", 0, 1, 0, 0)`, `knob("a", 0, 0, 1, -1)`, `knob("a", 0, 0, 1073741824, 1/2)`,
		`fix(-1, 2, "near", "sat")`, `fix(1, -2, "near", "sat")`, `fix(20, 20, "near", "sat")`, `fix(1, 2, "up", "sat")`, `fix(1, 2, "near", "stop")`, `fix(1, 2, "sat", "near")`, `fix(1, 2, "", "")`, `float(0, 1, "near", "sat")`, `float(2, 1, "near", "wrap")`, `float(25, 1, "near", "sat")`,
		"up(0, _)", "up(9, _)", "up(-1, _)", "down(0, _)", "down(9, _)",
	)
	refused(t, api.ErrLimit, "gate((par(i, 32, _) , par(i, 32, _)))", "reset((par(i, 32, _) , par(i, 32, _)))", "up(2, seq(i, 60, _))")
	refused(t, api.ErrPorts, "gate(_ : 1)", "up(0, (_ : 1))", "up(_, (_ : 1))")
	bodies(t, [2]string{"gate((par(i, 32, _) , par(i, 31, _)))", "(gate (par " + strings.Repeat("(par ", 31) + "wire" + strings.Repeat(" wire)", 31) + " " + strings.Repeat("(par ", 30) + "wire" + strings.Repeat(" wire)", 30) + "))"})
}
