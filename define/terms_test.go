package define_test

import (
	"strings"
	"testing"

	"serinette/api"
	"serinette/block"
	"serinette/define"
)

// P6.1: what each op of a term without others in it is.
func TestLeaves(t *testing.T) {
	bodies(t,
		[2]string{"0", "(num 0)"}, [2]string{"1/2", "(num 1/2)"}, [2]string{"-2.5", "(num -5/2)"}, [2]string{"1073741824", "(num 1073741824)"},
		[2]string{"_", "wire"}, [2]string{"!", "cut"},
		[2]string{"+", "add"}, [2]string{"-", "sub"}, [2]string{"*", "mul"}, [2]string{"/", "div"}, [2]string{"%", "mod"},
		[2]string{"<", "lt"}, [2]string{"<=", "le"}, [2]string{"==", "eq"}, [2]string{"!=", "ne"},
		[2]string{"&", "and"}, [2]string{"|", "or"}, [2]string{"^", "xor"}, [2]string{"<<", "shl"}, [2]string{">>", "shr"},
	)
	for _, s := range strings.Fields("neg abs floor round frac not min max pick") {
		bodies(t, [2]string{s, s}, [2]string{"(" + s + ")", s}, [2]string{s + " with { }", s}, [2]string{s + ".a", "ErrArg x"}, [2]string{"env { }." + s, "ErrName x"})
	}
}

// P6.1: par, seq, split, merge, rec.
func TestCompositions(t *testing.T) {
	bodies(t,
		[2]string{"_ , !", "(par wire cut)"}, [2]string{"1 , 2 , 3", "(par (par (num 1) (num 2)) (num 3))"}, [2]string{"1 , (2 , 3)", "(par (num 1) (par (num 2) (num 3)))"},
		[2]string{"1 : neg : !", "(seq (seq (num 1) neg) cut)"}, [2]string{"! : 1", "(seq cut (num 1))"},
		[2]string{"_ <: +", "(split wire add)"}, [2]string{"_ <: _", "(split wire wire)"}, [2]string{"_ , _ <: _ , _ , _ , _", "(split (par wire wire) (par (par (par wire wire) wire) wire))"},
		[2]string{"_ , _ :> _", "(merge (par wire wire) wire)"}, [2]string{"1 :> _", "(merge (num 1) wire)"},
		[2]string{"+ ~ _", "(rec add wire)"}, [2]string{"+ ~ 1", "(rec add (num 1))"}, [2]string{"_ ~ !", "(rec wire cut)"}, [2]string{"+ ~ delay(1) ~ !", "(rec (rec add (delay 1)) cut)"},
	)
	refused(t, api.ErrPorts, "_ , _ : !", "! : _", "_ : 1", "_ : _ , _", "_ , _ <: _", "_ <: 1", "! <: _", "! <: 1", "_ , _ <: _ , _ , _", "_ :> _ , _", "_ , _ , _ :> _ , _", "_ :> 1", "! :> _", "_ ~ (_ , _)", "1 ~ _", "_ ~ (_ <: _ , _)", "! ~ _")
	for _, sign := range []string{",", ":", "<:", ":>", "~"} {
		for _, other := range []string{`"t"`, "[_]", "env { }", `\(a).(a)`, "case { (0) => _; }"} {
			refused(t, api.ErrArg, "("+other+") "+sign+" (_)", "(_) "+sign+" ("+other+")", "("+other+") "+sign+" ("+other+")")
			refused(t, api.ErrName, "("+other+") "+sign+" (y)", "(y) "+sign+" ("+other+")")
		}
		sources(t,
			[2]string{"x = y " + sign + " z; y = a; z = b;", "ErrName y"}, [2]string{"x = y " + sign + ` z; y = "t"; z = b;`, "ErrName z"}, [2]string{"x = y " + sign + ` z; y = "t"; z = _ : 1;`, "ErrPorts z"}, [2]string{"x = y " + sign + " z; y = 1 : 1; z = b;", "ErrPorts y"}, [2]string{"x = y " + sign + ` z; y = "t"; z = _;`, "ErrArg x"},
		)
	}
}

// P6.1: the ports of what is made are asked, with the limits on diagrams.
func TestLimitsOfDiagrams(t *testing.T) {
	const source = "a(b) = b , b; "
	wires := func(times int, s string) string { return strings.Repeat("a(", times) + s + strings.Repeat(")", times) }
	sources(t,
		[2]string{source + "x = " + wires(7, "_") + ";", "ErrLimit a"},
		[2]string{source + "x = " + wires(7, "1") + ";", "ErrLimit a"},
		[2]string{source + "x = " + wires(6, "_") + " , _;", "ErrLimit x"},
		[2]string{source + "x = " + wires(6, "1") + " , 1;", "ErrLimit x"},
		[2]string{source + "x = " + wires(6, "1") + " : " + wires(6, "!") + ";", strings.ReplaceAll("(seq "+doubled(6, "1")+" "+doubled(6, "cut")+")", "1", "(num 1)")},
		[2]string{source + "x = " + wires(6, "_") + " <: _;", "ErrPorts x"},
		[2]string{source + "x = " + wires(5, "_ : _ : _ : _ : _ : _ : _ : _ : _") + " : !;", "ErrPorts x"},
		[2]string{source + "x = " + wires(8, "1 : !") + ";", "ErrLimit a"},
		[2]string{source + "x = " + wires(8, "(1 : !)") + " : 1;", "ErrLimit a"},
		[2]string{source + "x = " + wires(7, "1 : !") + " , " + wires(4, "1 : !") + ";", "(par " + doubled(7, "(seq (num 1) cut)") + " " + doubled(4, "(seq (num 1) cut)") + ")"},
		[2]string{source + "x = " + wires(7, "1 : !") + " , " + wires(5, "1 : !") + " , " + wires(3, "1 : !") + " , (1 : !) , (1 : !);", "ErrLimit x"},
	)
	for nodes, s := range map[int]string{575: "", 597: strings.Repeat(" , !", 11), 598: " , up(1, 1)" + strings.Repeat(" , !", 10), 599: strings.Repeat(" , !", 12), 600: " , up(1, 1)" + strings.Repeat(" , !", 11), 601: strings.Repeat(" , !", 13), 602: " , up(1, 1)" + strings.Repeat(" , !", 12)} {
		b, where, err := define.Source(source+"x = "+wires(7, "1 : !")+" , "+wires(4, "1 : !")+s+";", "x")
		if got := told(b, where, err); nodes <= api.MaxBlocks && (err != api.OK || block.Size(b) != nodes) || nodes > api.MaxBlocks && got != "ErrLimit x" {
			t.Errorf("%d nodes: got %.100s", nodes, got)
		}
	}
	for _, sort := range []string{"par", "seq"} {
		bodies(t, [2]string{sort + "(i, 60, _)", strings.Repeat("("+sort+" ", 59) + "wire" + strings.Repeat(" wire)", 59)})
		refused(t, api.ErrLimit, sort+"(i, 61, _)", sort+"(i, 64, _)", "_ : seq(i, 60, _)", "seq(i, 60, _) , _", "seq(i, 60, _)(_)", "up(1, seq(i, 60, _))", "gate(seq(i, 60, _))", "_ <: seq(i, 60, _)", "seq(i, 60, _) :> _", "seq(i, 60, _) ~ !", "seq(i, 1, sum(i, 59, 1) : _)")
	}
	bodies(t, [2]string{"sum(i, 59, _)", "(merge " + strings.Repeat("(par ", 58) + "wire" + strings.Repeat(" wire)", 58) + " wire)"})
	refused(t, api.ErrLimit, "sum(i, 60, _)", "sum(i, 64, 1)")
}

// doubled returns the text of par of s and s, so often.
func doubled(times int, s string) string {
	for range times {
		s = "(par " + s + " " + s + ")"
	}
	return s
}

// P6.1: texts, lists and environments hold what stands in them, which is evaluated from the left, and are no blocks.
func TestTextsAndLists(t *testing.T) {
	bodies(t,
		[2]string{`show("a")`, `(show "a")`}, [2]string{"table([1, 2, 3 :> _, neg(4)])", "(table 1 2 3 -4)"}, [2]string{"table([1, (2, 3 : +), neg(4), [5]])", "ErrNumber x"}, [2]string{"table([1, (2, 3 : +), neg(4)])", "(table 1 5 -4)"},
		[2]string{"[1, y, z]", "ErrName x"}, [2]string{`[1, "t", \(a).(b), [!], env { a = b; }]`, "ErrArg"}, [2]string{"[delay]", "ErrArg x"}, [2]string{"[delay, y]", "ErrArg x"}, [2]string{"[y, delay]", "ErrName x"}, [2]string{"[1, (_ : 1), y]", "ErrPorts x"},
	)
	sources(t, [2]string{"x = [1, y, z]; y = a; z = (_ : 1);", "ErrName y"}, [2]string{"x = [z, y]; y = a; z = (_ : 1);", "ErrPorts z"}, [2]string{"x = store(l); l = [a, a]; a = 1/2;", "(store 1/2 1/2)"})
}

// P6.1: names, and what they are bound to: the nearest.
func TestNames(t *testing.T) {
	sources(t,
		[2]string{"x = y; y = z; z = 1;", "(num 1)"},
		[2]string{"x = y , z; z = 1; y = z;", "(par (num 1) (num 1))"},
		[2]string{"y = 1; x = y with { y = 2; };", "(num 2)"},
		[2]string{"y = 1; x = y , (y with { y = 2; }) , y;", "(par (par (num 1) (num 2)) (num 1))"},
		[2]string{"y = 1; x = y with { y = 2; } with { y = 3; };", "(num 2)"},
		[2]string{"y = 1; x = y with { z = 2; } with { y = 3; };", "(num 3)"},
		[2]string{"y = 1; z = y; x = z with { y = 2; };", "(num 1)"},
		[2]string{"y = 1; x = z with { y = 2; z = y; };", "(num 2)"},
		[2]string{"y = 1; x = z with { z = y with { y = 3; }; y = 2; };", "(num 3)"},
		[2]string{"f(y) = y; y = 1; x = f(2);", "(num 2)"},
		[2]string{"f(a) = y; y = 1; x = f(2) with { y = 3; };", "(num 1)"},
		[2]string{"f(y) = y with { y = 3; }; x = f(2);", "(num 3)"},
		[2]string{"f(y) = g(1) with { g(a) = y; }; y = 4; x = f(2);", "(num 2)"},
		[2]string{"f(f) = f; x = f(2);", "(num 2)"},
		[2]string{"f(x) = x; x = f(1);", "(num 1)"},
		[2]string{`y = 1; x = \(y).(y)(2) , y;`, "(par (num 2) (num 1))"},
		[2]string{`x = \(y).(\(y).(y)(3) , y)(2);`, "(par (num 3) (num 2))"},
		[2]string{"y = 1; x = par(y, 2, y) , y;", "(par (par (num 0) (num 1)) (num 1))"},
		[2]string{"y = 2; x = par(y, y, y);", "(par (num 0) (num 1))"},
		[2]string{"x = par(i, 2, (par(i, 2, i) , i));", "(par (par (par (num 0) (num 1)) (num 0)) (par (par (num 0) (num 1)) (num 1)))"},
		[2]string{"y = 1; x = case { (y) => y; }(2) , y;", "(par (num 2) (num 1))"},
		[2]string{"y = 1; x = case { (0) => y; (y) => y , y; }(0);", "(num 1)"},
		[2]string{"y = 1; x = env { y = 2; z = y; }.z , y;", "(par (num 2) (num 1))"},
		[2]string{"neg = abs; x = neg;", "abs"}, [2]string{"neg = neg; x = 1;", "(num 1)"}, [2]string{"neg = neg; x = neg;", "ErrLimit neg"}, [2]string{"neg(a) = a; x = neg(1);", "(num 1)"}, [2]string{`x = \(neg).(neg)(_);`, "wire"}, [2]string{"x = neg with { neg = !; };", "cut"}, [2]string{"x = par(max, 2, max);", "(par (num 0) (num 1))"},
		[2]string{"delay = 1; x = delay;", "(num 1)"}, [2]string{"delay = neg; x = delay(3);", "(seq (num 3) neg)"}, [2]string{"delay(a) = a , a; x = delay(3);", "(par (num 3) (num 3))"}, [2]string{`x = \(delay).(delay(3))(neg);`, "(seq (num 3) neg)"}, [2]string{"x = delay(3) with { delay = [1]; };", "ErrArg x"}, [2]string{"x = case { (delay) => delay(3); }(abs);", "(seq (num 3) abs)"}, [2]string{"x = par(delay, 1, delay(3));", "ErrPorts x"}, [2]string{"x = seq(i, 2, (gate(i) with { gate(a) = up(2, _); }));", "(seq (up 2 wire) (up 2 wire))"},
		[2]string{"y(a) = 1; x = y(2) with { y = neg; };", "(seq (num 2) neg)"}, [2]string{"y = neg; x = y(2) with { y(a) = a , 3; };", "(par (num 2) (num 3))"},
	)
	refused(t, api.ErrName, "y", "y : z", "Neg", "fit", "add", "num", "cut", "wire", "rec", "split", "merge", "knob_", "par(i, 2, i) , i", "i , par(i, 2, i)", "par(i, i, 1)", `\(a).(a)(a)`, `\(a).(a)(1) , a`, "case { (a) => a; }(a)", "case { (0) => a; (a) => a; }(0)", "(y with { y = 1; }) , y", "env { y = 1; }.y , y", "z.y", "z(1)", "fit(1)", "y(z)", "nothing(1)")
	sources(t,
		[2]string{"f(a) = 1; x = f(2) , a;", "ErrName x"}, [2]string{"f(a) = b; g(b) = f(b); x = g(2);", "ErrName f"}, [2]string{"f(a) = b; x = f(2) with { b = 1; };", "ErrName f"}, [2]string{`f = \(a).(b); x = \(b).(f(1))(2);`, "ErrName f"}, [2]string{"y = i; x = par(i, 2, y);", "ErrName y"}, [2]string{"y = a; x = f(1); f(a) = y;", "ErrName y"},
	)
}

// P6.1: with and env, and what is seen of a place: only its own behind a dot.
func TestPlaces(t *testing.T) {
	sources(t,
		[2]string{"x = 1 with { };", "(num 1)"}, [2]string{"x = y with { y = 1; z = y; };", "(num 1)"}, [2]string{"x = z with { z = y; y = 1; };", "(num 1)"},
		[2]string{"x = f(2) with { f(0) = 5; f(n) = n , f((n , 1 : -)); };", "(par (num 2) (par (seq (par (num 2) (num 1)) sub) (num 5)))"},
		[2]string{"x = e.y; e = env { y = z; z = 1; };", "(num 1)"}, [2]string{"x = e.y; e = env { y = z; }; z = 1;", "(num 1)"}, [2]string{"x = e.y with { z = 2; }; e = env { y = z; }; z = 1;", "(num 1)"}, [2]string{"x = e.y with { e = env { y = z; }; z = 2; }; z = 1;", "(num 2)"},
		[2]string{"x = e.f(3); e = env { f(n) = n , z; z = 1; };", "(par (num 3) (num 1))"}, [2]string{"x = e.f(0) , e.f(1); e = env { f(0) = 5; f(n) = n; };", "(par (num 5) (num 1))"},
		[2]string{"x = e.d.y; e = env { d = env { y = z; }; z = 7; };", "(num 7)"}, [2]string{"x = f(1).y; f(n) = env { y = n; };", "(num 1)"}, [2]string{`x = \(e).(e.y)(env { y = 2; });`, "(num 2)"}, [2]string{"x = (env { y = 1; } with { }).y;", "(num 1)"}, [2]string{"x = e.y with { e = env { y = e; e = 3; }; };", "(num 3)"},
		[2]string{"x = env { y = 1; }.y(2);", "ErrPorts x"}, [2]string{"x = env { y = +; }.y(2);", "(seq (par (num 2) wire) add)"}, [2]string{"x = y with { f = 1; y = env { a = f; }.a; };", "(num 1)"},
		[2]string{"y = 1; x = env { }.y;", "ErrName x"}, [2]string{"y = 1; x = env { z = 1; }.y;", "ErrName x"}, [2]string{"e = env { y = 1; }; x = e.z;", "ErrName x"}, [2]string{"x = env { z = 1; }.neg;", "ErrName x"}, [2]string{"x = env { z = 1; }.delay(2);", "ErrName x"}, [2]string{"x = env { a = env { b = 1; }; }.b;", "ErrName x"},
		[2]string{"y = 1; x = y.y;", "ErrArg x"}, [2]string{`x = "t".y;`, "ErrArg x"}, [2]string{"x = [1].y;", "ErrArg x"}, [2]string{`x = (\(a).(a)).y;`, "ErrArg x"}, [2]string{"x = (case { (0) => 1; }).y;", "ErrArg x"}, [2]string{"f(a) = a; x = f.a;", "ErrArg x"}, [2]string{"x = delay.a;", "ErrArg x"}, [2]string{"x = neg.a;", "ErrArg x"},
		[2]string{"x = z.y; z = a;", "ErrName z"}, [2]string{"x = (1 with { y = 2; }).y;", "ErrArg x"},
		[2]string{"x = e.y; e = env { y = a; };", "ErrName y"}, [2]string{"x = e.y; e = env { y = 1; z = a; };", "(num 1)"}, [2]string{"x = 1 with { y = a; };", "(num 1)"}, [2]string{"x = y with { y = z; };", "ErrName y"},
	)
}

// P6.1: libraries are seen behind the definitions, and in each other; of two of one name the first.
func TestLibraries(t *testing.T) {
	libraries := shelf(t,
		[2]string{"l", "a = 1; b = k.a; f(0) = a; f(n) = l.f((n , 1 : -)); c = d; self = l.a; other = k.c; l2 = neg; up = abs;"},
		[2]string{"k", "a = 2; c = l.a , b; b = 3; k = env { a = 9; }; d = k.a; neg = !; e = neg;"},
		[2]string{"l", "a = 5; m = 6; z = 1; z = 2;"},
		[2]string{"abs", "a = 7;"},
		[2]string{"twice", "a = 1; b = 2; a = 3;"},
		[2]string{"rules", "f(0) = 1; g = 2; f(n) = 3; f = 4;"},
	)
	for s, want := range map[string]string{
		"l.a": "(num 1)", "k.a": "(num 2)", "l.b": "(num 2)", "l.f(0)": "(num 1)", "l.f(2)": "(num 1)", "l.self": "(num 1)", "l.other": "(par (num 1) (num 3))", "k.d": "(num 9)", "k.e": "cut", "l.l2": "neg", "l.up": "ErrArg", "abs.a": "(num 7)", "neg": "neg",
		"l.c": "ErrName c", "l.m": "ErrName", "l.z": "ErrName", "l.neg": "ErrName", "l": "ErrArg", "abs": "ErrArg", "m.a": "ErrName", "l.k": "ErrName", "a": "ErrName", "l.y": "ErrName", "k.l": "ErrName",
		"twice": "ErrTwice", "twice.b": "ErrTwice", "rules": "ErrTwice", "y": "ErrTwice y", "f(1)": "ErrTwice f", "[y, z]": "ErrTwice y", "[z, y]": "ErrName z", "1 with { a = twice; }": "(num 1)", "v with { v = twice.b; }": "ErrTwice v",
		"l.a with { l = env { a = 8; }; }": "(num 8)", `\(l).(l)(1)`: "(num 1)", `\(l).(l.a)(k)`: "(num 2)", "d": "(num 4)", "d2": "ErrName d2", "twice with { twice = 1; }": "(num 1)",
		"h.b": "ErrArg", "h": "(num 10)", "l.b with { k = env { a = 11; }; }": "(num 2)",
	} {
		defs := mustParse(t, "y = twice; z = nothing; f(n) = twice.b; d = l.a with { l = env { a = 4; }; }; d2 = l.y; h = 10; x = k;")
		if got := told(define.Eval(defs, mustExpr(t, s), libraries)); got != want {
			t.Errorf("%s: got %s, want %s", s, got, want)
		}
	}
	for source, want := range map[string]string{"l = env { a = 12; }; y = l.b;": "ErrName y", "k = env { a = 13; }; y = l.b;": "(num 2)", "d = 14; y = l.c;": "ErrName c", "twice = 15; y = twice;": "(num 15)", "l(n) = n; y = l(16);": "(num 16)"} {
		if got := told(define.Eval(mustParse(t, source), name("y"), libraries)); got != want {
			t.Errorf("%s: got %s, want %s", source, got, want)
		}
	}
}

// P6.1: several definitions of one name, and when it is found that they do not agree.
func TestTwice(t *testing.T) {
	for _, s := range []string{"y = 1; y = 2;", "y = 1; y = 1;", "y = 1; y(n) = 2;", "y(n) = 1; y = 2;", "y(0) = 1; y(n) = 2; y = 3;", "y(0) = 1; y(n, m) = 2;", "y(n, m) = 1; y(0) = 2;", "y(0) = 1; y(1) = 2; y(n, m) = 3;", "y = 1; a = 2; y = 3;", "y(a) = 1; b = 2; y(a, b) = 3;", "y(n) = 1; y(0) = 2; a = 3; y(n) = 4; y = 5;"} {
		if got := told(define.Source(s, "y")); got != "ErrTwice" {
			t.Errorf("%s: got %s", s, got)
		}
		for _, e := range []string{"nothing", `"t"`, "_ : 1", "delay"} {
			if got := told(define.Eval(mustParse(t, s), mustExpr(t, e), nil)); got != "ErrTwice" {
				t.Errorf("%s, ahead of %s: got %s", s, e, got)
			}
		}
		sources(t,
			[2]string{s + " x = 1;", "ErrTwice"}, [2]string{"x = 1; " + s, "ErrTwice"}, [2]string{"x = nothing; " + s, "ErrTwice"},
			[2]string{"x = 1 with { " + s + " };", "ErrTwice x"}, [2]string{"x = nothing with { " + s + " };", "ErrTwice x"}, [2]string{"x = nothing , (1 with { " + s + " });", "ErrName x"}, [2]string{"x = (1 with { " + s + " }) , nothing;", "ErrTwice x"}, [2]string{"x = z; z = 1 with { " + s + " };", "ErrTwice z"}, [2]string{"x = f(1); f(n) = n with { " + s + " };", "ErrTwice f"}, [2]string{"x = y with { y = 1 with { " + s + " }; };", "ErrTwice y"}, [2]string{"x = z with { z = y with { y = 1 with { " + s + " }; }; };", "ErrTwice y"},
			[2]string{"x = env { " + s + " };", "ErrTwice x"}, [2]string{"x = env { " + s + " }.nothing;", "ErrTwice x"}, [2]string{"x = env { a = 1; " + s + " }.a;", "ErrTwice x"}, [2]string{"x = [env { " + s + " }, nothing];", "ErrTwice x"}, [2]string{"x = [nothing, env { " + s + " }];", "ErrName x"}, [2]string{"x = e.a; e = env { a = 1; " + s + " };", "ErrTwice e"}, [2]string{`x = \(e).(1)(env { ` + s + " });", "ErrTwice x"},
			[2]string{"x = 1; z = 2 with { " + s + " };", "(num 1)"}, [2]string{"x = 1 with { a = env { " + s + " }; };", "(num 1)"}, [2]string{"x = env { a = 1; b = env { " + s + " }; }.a;", "(num 1)"}, [2]string{`x = \(f).(1)(\(n).(n with { ` + s + " }));", "(num 1)"},
		)
	}
	sources(t,
		[2]string{"x = f(0) , f(1) , f(2); f(0) = 10; f(1) = 11; f(n) = n;", "(par (par (num 10) (num 11)) (num 2))"},
		[2]string{"f(0) = 10; x = f(0) , f(1) , f(2); f(n) = n; y = 1; f(1) = 11;", "(par (par (num 10) (num 1)) (num 2))"},
		[2]string{"f(n) = n; f(n) = 2; x = f(1);", "(num 1)"}, [2]string{"f(a, b) = a; f(c, d) = d; f(0, 0) = 5; x = f(0, 0);", "(num 0)"},
	)
}
