package term_test

import (
	"strings"
	"testing"

	"serinette/api"
	"serinette/term"
)

// mark stands in a source where its error lies.
const mark = "§"

// marked returns a source without its mark, and where that stood.
func marked(s string) (source string, place int) {
	ahead, behind, _ := strings.Cut(s, mark)
	return ahead + behind, len(ahead)
}

// refusedExprs tries expressions that are refused where they are marked.
func refusedExprs(t *testing.T, want api.Errno, l ...string) {
	t.Helper()
	for _, s := range l {
		source, place := marked(s)
		if got, at, err := term.Expr(source); !isNothing(got) || at != place || err != want {
			t.Errorf("Expr(%.200q): got %.200s, place %d, %v, want place %d, %v", source, dump(got), at, err, place, want)
		}
	}
}

// refusedSources tries sources that are refused where they are marked.
func refusedSources(t *testing.T, want api.Errno, l ...string) {
	t.Helper()
	for _, s := range l {
		source, place := marked(s)
		if got, at, err := term.Parse(source); len(got) > 0 || at != place || err != want {
			t.Errorf("Parse(%.200q): got %.200s, place %d, %v, want place %d, %v", source, dumpDefs(got), at, err, place, want)
		}
	}
}

// P4.1: what is no token.
func TestNoTokens(t *testing.T) {
	for c := range 256 {
		if s := string([]byte{byte(c)}); !strings.Contains(" \t\n_()[]{},;:.~=!+-*/%<&|^\\\"", s) && !strings.ContainsAny(s, "abcdefghijklmnopqrstuvwxyzABCDEFGHIJKLMNOPQRSTUVWXYZ0123456789") {
			refusedExprs(t, api.ErrForm, mark+s, mark+s+"a", "a "+mark+s, "(a"+mark+s, "a : "+mark+s+" b", "//"+s+"\n"+mark+s)
		}
	}
	long := strings.Repeat("x", api.MaxName+1)
	refusedExprs(t, api.ErrForm, "§"+long, "a : §"+long+" : b", "f(§"+long+")", `\(§`+long+").(1)", "a.§"+long, "§"+long+long+"_1", "§par"+long)
	refusedSources(t, api.ErrForm, "§"+long+" = 1;", "a = §"+long+";", "a = 1; §"+long+" = 2;", "f(§"+long+") = 1;")
	refusedExprs(t, api.ErrForm, `§"`, `§"abc`, `a : §"abc`, "§\"a\nb\"", "§\"a\tb\"", "§\"\x7f\"", "§\"\x1f\"", "§\"\x00\"", `§"é"`, `§"`+strings.Repeat("x", api.MaxName+1)+`"`, `"a"§"b"`, `"a"§"`, "f(§\"//\n\")", "§\"a\r\"")
	refusedExprs(t, api.ErrForm, "§__", "§_a", "§_1", "§_a_", "1§_", "1/2§_", "1.5§_", "-1§_", "a : §_b", "a : §__ : b", "(§_1)", "_ : §_x : _", "f(§_y)", "§_0 : a", "a : §_Z")
	refusedExprs(t, api.ErrForm, "a §>", "a §> b", "a §>= b", "a : §>", "a <:§> b", "a :>§> b", "case { (0) =>§> 1; }", "a §@ $", "§>(1)", "§\r", "a§\r\n", "a§\v", "a§\f", "§\ufeffa", "§é")
}

// P4.1: the first token that no expression goes on with.
func TestWhatNoExpressionGoesOnWith(t *testing.T) {
	refusedExprs(t, api.ErrForm,
		"§", " \t\n§", "// a§", "§;", "§)", "§,", "§~", "§:", "§<:", "§:>", "§.", "§=", "§=>", "§]", "§}", "§{", "§with",
		"a §b", "a §1", `a §"b"`, "a §_", "a §!", "a §+", "a §[b]", `a §\(x).(x)`, "a §par", "a §env", "a §{", "a §= b", "a §;", "a§)", "a§]", "a§}", "1 §2", "_§!", "!§_", "+§+", "a§!= b", "a §== b", "a §<< b", "a §=> b",
		"a :§", "a ,§", "a ~§", "a <:§", "a :>§", "a : §:", "a : §, b", "a , §, b", "a ~ §~ b", "a <: §:> b", "a §<< : b", "a§<<:b", "a : §)", "a: §with { }", "a ,§)",
		"(§", "(§)", "(a§", "(a §b)", "(a,§)", "((a)§", "(a)§)", "[§", "[§]", "[a§", "[a,§", "[a,§]", "[a §b]", "[a]§]", "[a§)", "(a§]", "(a with §}",
		"f(§", "f(§)", "f(a§", "f(a,§", "f(a,§)", "f(a §b)", "f(a)§)", "f(a§]", "f(§,a)", "a.§", "a.§1", "a.§_", "a.§(b)", "a.§par", "a.§with", `a.§"b"`, "a.§.b", "1.§", "1.§.2", "1 .§5", "a.b §c", "1.5.§5", "1/2.§5",
		`\§`, `\§x`, `\(§`, `\(§)`, `\(§1)`, `\(§par)`, `\(§_)`, `\(x§`, `\(x §y)`, `\(x,§)`, `\(x, §2)`, `\(x)§`, `\(x)§(x)`, `\(x)§x`, `\(x).§`, `\(x).§x`, `\(x).(§`, `\(x).(§)`, `\(x).(x§`, `\(x).(x)§)`, `\(x).(x) §x`, `\(§(x)).(x)`,
		"par§", "par §3", "par§, a", "par §: a", "par(§", "par(§)", "par(§3, a, b)", "par(§-3, a, b)", "par(§par, a, b)", "par(i§", "par(i§)", "par(i,§", "par(i,§)", "par(i, 3§", "par(i, 3§)", "par(i, 3,§", "par(i, 3,§)", "par(i, 3, i§", "par(i, 3, i§, i)", "seq(i §j, 3)", "sum(i §: 3, i)", "sum(i, 3 §4, i)", "seq(i, 3, i)§)", "par§.a",
	)
	refusedExprs(t, api.ErrForm,
		"case§", "case §(", "case {§", "case {§}", "case { §0", "case { (§", "case { (§)", "case { (§) => 1; }", "case { (0§", "case { (0,§", "case { (0,§) => 1; }", "case { (§_) => 1; }", "case { (§par) => 1; }", "case { (§+) => 1; }", "case { (§- 1) => 1; }", `case { (§"a") => 1; }`, "case { (§(0)) => 1; }", "case { (0 §n) => 1; }", "case { (0)§", "case { (0) §= 1; }", "case { (0) §1; }", "case { (0) =>§", "case { (0) => §; }", "case { (0) => 1§", "case { (0) => 1§}", "case { (0) => 1 ,§", "case { (0) => 1;§", "case { (0) => 1; §; }", "case { (0) => 1; §n) => 2; }", "case { (0) => 1; (n) => n§}", "case { (0) => 1; }§}", "case { (0) => 1; } §;", "case { §f(0) = 1; }",
		"env§", "env §(", "env {§", "env { §; }", "env { §1 = 1; }", "env { §par = 1; }", "env { a§", "env { a§}", "env { a §1; }", "env { a §: 1; }", "env { a =§", "env { a = §}", "env { a = §;}", "env { a = 1§", "env { a = 1§}", "env { a = 1;§", "env { a = 1;§;}", "env { f(§) = 1; }", "env { f(0 §= 1; }", "env { f(0)§; }", "env { f(0) §=> 1; }", "env { f(0)§(1) = 1; }", "env { a§.b = 1; }", "env { }§}", "env { §(0) => 1; }", "env { §_ = 1; }",
		"a with§", "a with §a", "a with §(", "a with {§", "a with { §1", "a with { b §}", "a with { b = 1 §}", "a with { b = 1;§", "a with { } §: b", "a with { } §, b", "a with { } §~ b", "a with { } §<: b", "a with { } §(b)", "a with { } §.b", "a with { }§}", "a with { } with§", "a with { } §b", "f(a with { } §: b)", "a : §with { }", "§with { }", "(a with { }§", "a §with_ { }", "awith §{ }",
	)
	refusedExprs(t, api.ErrForm, "- §3", "1 §/ 2", "1 §/2", "1§/ 2", "1§-2", "a§-2", "a §-2", "_§-1", "(a)§-1", "[a]§-1", "f(a)§-1", "-§-1", "-1§-1", "+§-1", "!§-1", `"a"§-1`, "a.§-1", "a.b§-1", "1/2§/3", "1.5§/2", "1/2§-3", "12§x", "1§a", "env { }§-1")
}

// P4.1: the first token that no source goes on with.
func TestWhatNoSourceGoesOnWith(t *testing.T) {
	refusedSources(t, api.ErrForm,
		"§;", "§1 = 1;", "§_ = 1;", "§(a) = 1;", "§par = 1;", "§env = 1;", "§with = 1;", `§"a" = 1;`, "§= 1;", "§}", "§-1 = 1;", "§[a]",
		"a§", "a §1", "a §b = 1;", "a§;", "a §== 1;", "a §=> 1;", "a§: 1;", "a§.b = 1;", "a =§", "a = §;", "a = §= 1;", "a = 1§", "a = 1 // §", "a = 1 §b = 2;", "a = 1§)", "a = 1§}", "a = 1;§;", "a = 1; §1", "a = 1; b§", "a = 1; b =§", "a = 1; b = 2§", "a = 1; §par = 2;", "a = 1; §= 2;", "a = 1;§)",
		"f(§", "f(§) = 1;", "f(§, a) = 1;", "f(a§", "f(a §b) = 1;", "f(a,§", "f(a,§) = 1;", "f(a)§", "f(a)§;", "f(a)§(b) = 1;", "f(a) §b;", "f(§_) = 1;", "f(§!) = 1;", "f(§+) = 1;", "f(§- 1) = 1;", "f(§par) = 1;", `f(§"a") = 1;`, "f(§(a)) = 1;", "f(§[a]) = 1;", "f(a§: b) = 1;", "f(1 §2) = 1;", "f(a§.b) = 1;", "f(a§(b)) = 1;", "f(a §= 1) = 1;",
		"a = (1§;", "a = [1§;", "a = 1 :§;", "a = f(1§;", "a = b with { c = 1;§", "a = b with { c = 1; }§", "a = env { }§", "a = case {§", "a = - §3;", "a = 1; b = 1 §/ 2; c = @;", "a = 1; §@ = (;",
	)
	refusedExprs(t, api.ErrForm, "a§= 1;", "a §= 1;", "a§;", "f(a) §= 1;", "env { }§;")
}

// P4.1: numbers that ratio.Parse does not take.
func TestNoNumbers(t *testing.T) {
	for _, s := range []string{"12345678901", "1073741825", "1/0", "0/0", "1/1073741825", "1/12345678901", "12345678901/1", "1.0000000001", "1.0000000000", "4294967295.5", "-1073741825", "-1/0", "-12345678901", "0000000000000000000001", "99999999999999999999999"} {
		refusedExprs(t, api.ErrForm, "§"+s, "a : §"+s+" : b", "f(a, §"+s+")", "§"+s+".", "//\n§"+s, "case { (§"+s+") => 1; }", "case { (0) => §"+s+"; }", "§"+s+"_")
		refusedSources(t, api.ErrForm, "a = §"+s+";", "f(§"+s+") = 1;", "f(x, §"+s+") = @;", "a = 1; b = §"+s+"; c = @")
	}
}

// P4.1: names that stand a second time.
func TestTwice(t *testing.T) {
	refusedExprs(t, api.ErrTwice, `\(x, §x).(x)`, `\(x, y, §x).(x)`, `\(x, y, §y).(x)`, `\(x,§x`, `\(x,§x @`, `\(a).(\(x, §x).(1))`, `f(\(x, §x).(1), )`, "case { (n, §n) => 1; }", "case { (0, n, 1, §n) => 1; }", "case { (n) => 1; (0) => 2; (m) => 3; } : case { (m, §m", "case { (n) => case { (m, §m) => 1; }; }", "env { f(x, §x) = 1; }", "env { f(x, 1, §x", "a with { b = 1; f(x, y, §y) = 1; }", "par(i, 2, case { (i, §i) => 1; })")
	refusedSources(t, api.ErrTwice, "f(x, §x) = x;", "f(x, y, §x) = x;", "f(0, x, 0, §x) = x;", "f(x, §x", "f(x, §x, x)", "f(x, §x = @", "a = 1; f(x, §x) = (;", `a = \(x, §x).(x);`, "a = b with { f(x, §x) = 1; };")
	for _, s := range []string{`\(x).(\(x).(x))`, `\(x, y).(\(y, x).(x))`, "case { (n) => n; (n) => n; }", "case { (n, 0) => n; (0, n) => n; }", "case { (1, 1) => 1; (1/2, 0.5) => 2; }", "par(i, 2, par(i, 2, i))", "env { f(f) = f; f(f, g) = f; g(f) = f; f = 1; }", `\(f).(env { f(f) = \(f).(f); })`, "[f(x, x), f(x)]"} {
		mustExpr(t, s)
	}
}

// P4.1: rules with another number of patterns than the first one has.
func TestUnlikeRules(t *testing.T) {
	refusedExprs(t, api.ErrForm, "case { (0) => 1; §(1, 2) => 3; }", "case { (0, 1) => 1; §(1) => 3; }", "case { (0) => 1; (n) => 2; §(n, m) => 3; }", "case { (a, b) => 1; (a, b) => 2; §(a, b, c) => 3; (a) => 4; }", "case { (0) => case { (1, 2) => 1; §(1) => 2; }; }", "case { (0) => 1;§(1,2)", "case { (0) => 1; §(1, 2) @", "case { (0) => 1; §(1, 2) => (; }", "f(case { (0) => 1; §(n, m) => 1; }, )")
	refusedSources(t, api.ErrForm, "a = case { (0) => 1; §(1, 2) => 3; };", "a = b with { c = case { (x, y) => x; §(z) => z; }; };")
	mustExpr(t, "case { (0, n) => case { (1) => 2; (m) => 3; }; (n, 0) => case { (1, 2, 3) => 4; }; }")
}

// P4.1: of two errors the one that is reached first; behind what is read, the limits.
func TestWhichComesFirst(t *testing.T) {
	refusedExprs(t, api.ErrTwice, `\(x, §x).(12345678901)`, `\(x, §x, x) @`, "case { (0) => 1; (n, §n) => 2; }", "case { (n, §n) => 1; (0) => 2; }")
	refusedExprs(t, api.ErrForm, `\(x,§) \(x, x)`, `f(§1/0, \(x, x).(1))`, `a §b \(x, x).(1)`, "case { (0) => 1; (n, m §=> 2; }", "case { (0) => 1; (n, §1/0) => 2; }", "case { (0) => 1; §(n, m) => 1/0; }", "case { (0) => 1; §(n, m) => 2; (k, k) => 3; }", `§@ \(x, x).(1)`, "§1/0 )", "a §) 1/0", `\(x, §2, x).(x)`)
	deep, long := nested(api.MaxNest+1), "["+strings.Repeat("1,", api.MaxTerm)+"1"
	refusedExprs(t, api.ErrForm, deep+"§)", deep+" §@", "("+deep+"§", long+"§", long+" §@ ]", long+"]§]", "["+deep+", §1/0]")
	refusedExprs(t, api.ErrTwice, "["+deep+`, \(x, §x).(1)]`, long+`, \(x, §x).(1)]`)
	refusedSources(t, api.ErrForm, "a = "+deep+"§", "a = "+deep+"; §@", "a = "+long+"§;")
	tooMuch := strings.Repeat(" ", api.MaxText)
	refusedExprs(t, api.ErrLimit, "§@"+tooMuch, "§1/0"+tooMuch, `§\(x, x).(1)`+tooMuch)
	refusedSources(t, api.ErrLimit, "§@"+tooMuch, "§f(x, x) = 1;"+tooMuch)
}

// nested returns an expression of this depth.
func nested(depth int) string {
	return strings.Repeat("f(", depth-1) + "1" + strings.Repeat(")", depth-1)
}

// P4.1: bytes.
func TestMaxText(t *testing.T) {
	blanks := strings.Repeat(" ", api.MaxText-1)
	if got := mustExpr(t, blanks+"1"); !same(got, num(1, 1)) {
		t.Errorf("MaxText bytes: %s", dump(got))
	}
	mustParse(t, blanks+"\n")
	mustParse(t, blanks[4:]+"a=1;"+"\n")
	refusedExprs(t, api.ErrForm, blanks+" §", blanks+"§@")
	refusedExprs(t, api.ErrLimit, "§1"+blanks+" ", "§"+blanks+"  ")
	refusedSources(t, api.ErrLimit, "§"+blanks+"  ", "§a=1;"+blanks, "§"+strings.Repeat(blanks, 3))
}

// P4.1: nodes; those of patterns and of terms of definitions count, definitions and rules do not.
func TestMaxTerm(t *testing.T) {
	ones := func(n int) string { return strings.Repeat("1,", n-1) + "1" }
	const m = api.MaxTerm
	for _, s := range []string{"[" + ones(m-1) + "]", "f(" + ones(m-2) + ")", "a with { b = [" + ones(m-3) + "]; }", "a with { b(x, 1) = [" + ones(m-5) + "]; }", "case { (" + ones(m-2) + ") => 1; }", "env { a = [" + ones(m-5) + "]; b(0) = 1; c = 2; }", `\(x, y, z).([` + ones(m-2) + "])", "par(i, 3, [" + ones(m-3) + "])", "[" + ones(m-3) + "].a.b", "([" + ones(m-3) + "]) : 1"} {
		if got := mustExpr(t, s); term.Size(got) != m {
			t.Errorf("Expr(%.20q): %d nodes", s, term.Size(got))
		}
		refusedExprs(t, api.ErrLimit, "§"+strings.Replace(s, "1,1", "1,1,1", 1))
	}
	half := "[" + ones(m/2-1) + "];"
	mustParse(t, "a="+half+"b="+half)
	mustParse(t, "f("+ones(m-1)+")=1;")
	mustParse(t, strings.Repeat("a=1;", m))
	refusedSources(t, api.ErrLimit, "§a="+half+"b="+half+"c=1;", "§f("+ones(m)+")=1;", "§f(1)="+half+"b="+half, "§a=["+ones(m)+"];", "§f("+ones(m-2)+")=a:b;")
}

// P4.1: depth.
func TestMaxNest(t *testing.T) {
	const m = api.MaxNest
	chain := strings.Repeat("1,", m-1) + "1"
	for _, s := range []string{nested(m), chain, strings.Repeat("(", 500) + chain + strings.Repeat(")", 500), "a" + strings.Repeat(".b", m-1), "a" + strings.Repeat("(b)", m-1), "a" + strings.Repeat(" with { }", m-1), strings.Repeat("env { a = ", m-1) + "1" + strings.Repeat("; }", m-1), strings.Repeat("case { (0) => ", m-1) + "1" + strings.Repeat("; }", m-1), strings.Repeat(`\(x).(`, m-1) + "x" + strings.Repeat(")", m-1), strings.Repeat("par(i, ", m-1) + "1" + strings.Repeat(", 1)", m-1), strings.Repeat("sum(i, 2, ", m-1) + "1" + strings.Repeat(")", m-1), strings.Repeat("[", m-1) + "1" + strings.Repeat("]", m-1), strings.Repeat("a:(", m-1) + "1" + strings.Repeat(")", m-1), "1 with { a = " + nested(m-1) + "; }"} {
		mustExpr(t, s)
		mustParse(t, "a = 1; f(x) = "+s+";")
		refusedExprs(t, api.ErrLimit, "§[("+s+")]", "§("+s+").a", "§a : ("+s+")", "§env { a = 1; b = "+s+"; }", "§1 with { f(x) = "+s+"; }", "§case { (0) => 1; (n) => "+s+"; }")
		refusedSources(t, api.ErrLimit, "§a = 1; b = [("+s+")];", "§a = [("+s+")]; b = 1;")
	}
	for _, s := range []string{"env { f(1) = 1; }", "case { (n) => 1; }"} {
		inner := strings.Repeat("[", m-2) + s + strings.Repeat("]", m-2)
		mustExpr(t, inner)
		refusedExprs(t, api.ErrLimit, "§["+inner+"]")
	}
	mustExpr(t, strings.Repeat("[", m-1)+"env { }"+strings.Repeat("]", m-1))
	mustExpr(t, strings.Repeat("(", api.MaxText/2)[1:]+"1"+strings.Repeat(")", api.MaxText/2-1))
	refusedExprs(t, api.ErrForm, strings.Repeat("(", api.MaxText)+"§", strings.Repeat("[", api.MaxText)+"§", strings.Repeat("f(", api.MaxText/2)+"§", strings.Repeat("env{a=", api.MaxText/6)+"§")
}
