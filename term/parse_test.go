package term_test

import (
	"strings"
	"testing"

	"serinette/api"
	"serinette/term"
)

// P4.1: each kind of term, all of its fields.
func TestKindsOfTerms(t *testing.T) {
	for s, want := range map[string]api.Term{
		"1/2": num(1, 2), "a_1": name("a_1"), `"a b"`: text("a b"), `""`: text(""), "_": wire(), "!": cut(), "<<": operator("shl"),
		"_ , !": two("par", wire(), cut()), "_ : !": two("seq", wire(), cut()), "_ <: !": two("split", wire(), cut()), "_ :> !": two("merge", wire(), cut()), "_ ~ !": two("rec", wire(), cut()),
		"f(1)": call(name("f"), num(1, 1)), "f(1, x, _)": call(name("f"), num(1, 1), name("x"), wire()), "a.b": dot(name("a"), "b"),
		"[1]": list(num(1, 1)), "[1, _]": list(num(1, 1), wire()), `\(x).(x)`: fun("x", name("x")), `\(x, y).(_ , y)`: fun("x y", two("par", wire(), name("y"))),
		"par(i, 3, i)": iter("par", "i", num(3, 1), name("i")), "seq(i, n, _)": iter("seq", "i", name("n"), wire()), "sum(k, 2, 1)": iter("sum", "k", num(2, 1), num(1, 1)),
		"a with { a = 1; f(x, 0) = x; }": with(name("a"), def("a", num(1, 1)), def("f", name("x"), name("x"), num(0, 1))),
		"case { (0) => 1; (n) => n; }":   cases(rule(num(1, 1), num(0, 1)), rule(name("n"), name("n"))),
		"case { (1, a, 1) => a; }":       cases(rule(name("a"), num(1, 1), name("a"), num(1, 1))),
		"env { a = 1; }":                 env(def("a", num(1, 1))),
		"env { }":                        env(),
		"a with { }":                     with(name("a")),
		"( ( _ ) )":                      wire(),
		"env { f(a) = a; f(a, b) = b; f = 1; f(0) = 0;}": env(def("f", name("a"), name("a")), def("f", name("b"), name("a"), name("b")), def("f", num(1, 1)), def("f", num(0, 1), num(0, 1))),
	} {
		if got := mustExpr(t, s); !same(got, want) {
			t.Errorf("Expr(%q): got %#v, want %#v", s, got, want)
		}
	}
	for i, sign := range operatorSigns() {
		if got := mustExpr(t, sign); !same(got, operator(operatorTexts()[i])) {
			t.Errorf("Expr(%q): got %#v", sign, got)
		}
	}
}

// exprCase is an expression and the dump of its term.
type exprCase struct{ source, want string }

// readAll reads expressions.
func readAll(t *testing.T, l []exprCase) {
	t.Helper()
	for _, c := range l {
		got := mustExpr(t, c.source)
		if dump(got) != c.want {
			t.Errorf("Expr(%q): got %s, want %s", c.source, dump(got), c.want)
		}
		if !term.Valid(got) {
			t.Errorf("Expr(%q) is not valid", c.source)
		}
	}
}

// P4.1: how loosely signs hold, and that it goes from the left.
func TestHowSignsHold(t *testing.T) {
	readAll(t, []exprCase{
		{"a <: b :> c", "(merge (split a b) c)"}, {"a :> b <: c", "(split (merge a b) c)"}, {"a <: b <: c", "(split (split a b) c)"}, {"a :> b :> c", "(merge (merge a b) c)"},
		{"a : b : c", "(seq (seq a b) c)"}, {"a , b , c", "(par (par a b) c)"}, {"a ~ b ~ c", "(rec (rec a b) c)"},
		{"a <: b : c", "(split a (seq b c))"}, {"a : b <: c", "(split (seq a b) c)"}, {"a :> b , c", "(merge a (par b c))"}, {"a : b , c", "(seq a (par b c))"}, {"a , b : c", "(seq (par a b) c)"},
		{"a , b ~ c", "(par a (rec b c))"}, {"a ~ b , c", "(par (rec a b) c)"}, {"a ~ b : c ~ d", "(seq (rec a b) (rec c d))"}, {"a <: b ~ c", "(split a (rec b c))"},
		{"a ~ b , c : d <: e", "(split (seq (par (rec a b) c) d) e)"}, {"a <: b : c , d ~ e", "(split a (seq b (par c (rec d e))))"}, {"a , b : c , d : e , f", "(seq (seq (par a b) (par c d)) (par e f))"},
		{"a , (b , c)", "(par a (par b c))"}, {"a ~ (b ~ c)", "(rec a (rec b c))"}, {"a : (b : c)", "(seq a (seq b c))"}, {"a <: (b :> c)", "(split a (merge b c))"}, {"(a <: b) ~ c", "(rec (split a b) c)"},
		{"a ~ f(b).c ~ d", "(rec (rec a (dot.c (call f b))) d)"}, {"-1 ~ -2 , -3 : -4 <: -5", "(split (seq (par (rec -1 -2) -3) -4) -5)"},
	})
}

// P4.1: what is defined behind an expression, as a whole, again and again.
func TestWith(t *testing.T) {
	readAll(t, []exprCase{
		{"a , b : c <: d with { a = 1; }", "(with (split (seq (par a b) c) d) {a=1})"}, {"a with { a = 1; } with { b = 2; }", "(with (with a {a=1}) {b=2})"}, {"a with { } with { } with { }", "(with (with (with a {}) {}) {})"},
		{"(a with { a = 1; }) : b", "(seq (with a {a=1}) b)"}, {"a : (b with { b = 1; }) : c", "(seq (seq a (with b {b=1})) c)"}, {"a with { a = b with { b = 1; }; }", "(with a {a=(with b {b=1})})"},
		{"f(a with { a = 1; }, b : c with { b = 1; } with { c = 2; })", "(call f (with a {a=1}) (with (with (seq b c) {b=1}) {c=2}))"}, {"[a with { a = 1, 2; }, 3]", "(list (with a {a=(par 1 2)}) 3)"},
		{`\(x).(x with { y = 1; })`, "(fun[x] (with x {y=1}))"}, {"par(i, n with { n = 3; }, i with { })", "(iter.par[i] (with n {n=3}) (with i {}))"}, {"case { (0) => a with { a = 1; }; (n) => n; }", "(case {,0=(with a {a=1}); ,n=n})"},
		{"1with{a=1;}", "(with 1 {a=1})"}, {"_ with{}", "(with wire {})"}, {`"a"with{}`, `(with "a" {})`}, {"env{}with{}", "(with (env {}) {})"},
	})
}

// P4.1: what stands behind a primary, and primaries of each kind.
func TestApplied(t *testing.T) {
	readAll(t, []exprCase{
		{"f(a)(b)", "(call (call f a) b)"}, {"f(a, b)(c)", "(call (call f a b) c)"}, {"a.b.c", "(dot.c (dot.b a))"}, {"a.b(c).d(e, f)", "(call (dot.d (call (dot.b a) c)) e f)"}, {"f (a) . b", "(dot.b (call f a))"},
		{"1(2)", "(call 1 2)"}, {"1.a", "(dot.a 1)"}, {"-1.5.a", "(dot.a -3/2)"}, {"1/2.a", "(dot.a 1/2)"}, {`"t"(1)`, `(call "t" 1)`}, {`"t".a`, `(dot.a "t")`}, {"_(1)", "(call wire 1)"}, {"_.a", "(dot.a wire)"}, {"!(1).a", "(dot.a (call cut 1))"},
		{"+(1)", "(call #add 1)"}, {"-(1)", "(call #sub 1)"}, {"-(-1)", "(call #sub -1)"}, {"<<.a", "(dot.a #shl)"}, {"(a , b)(1)", "(call (par a b) 1)"}, {"(a).b", "(dot.b a)"}, {"[a, b](1).c", "(dot.c (call (list a b) 1))"},
		{`\(x).(x)(1)`, "(call (fun[x] x) 1)"}, {`\(x).(x).a`, "(dot.a (fun[x] x))"}, {`\ ( x , y ) . ( \(z).(z) )`, "(fun[x y] (fun[z] z))"}, {"par(i, 3, i)(1)", "(call (iter.par[i] 3 i) 1)"}, {"seq(i, 3, i).a", "(dot.a (iter.seq[i] 3 i))"},
		{"case { (0) => 1; }(2)", "(call (case {,0=1}) 2)"}, {"env { a = 1; }.a", "(dot.a (env {a=1}))"}, {"env { } (1)", "(call (env {}) 1)"}, {"(a with { })(1)", "(call (with a {}) 1)"}, {"f(+, -, *)", "(call f #add #sub #mul)"},
	})
}

// P4.1: ARG has no comma but in brackets of its own, and all other signs.
func TestArguments(t *testing.T) {
	readAll(t, []exprCase{
		{"f(a, b, c)", "(call f a b c)"}, {"f((a, b), c)", "(call f (par a b) c)"}, {"f((a, b))", "(call f (par a b))"}, {"f(a : b, c ~ d, e <: g :> h)", "(call f (seq a b) (rec c d) (merge (split e g) h))"},
		{"f(a : (b, c), d)", "(call f (seq a (par b c)) d)"}, {"f(g(a, b), [c, d], e)", "(call f (call g a b) (list c d) e)"}, {`f(\(x, y).(x, y), z)`, "(call f (fun[x y] (par x y)) z)"}, {"f(case { (a, b) => a, b; }, c)", "(call f (case {,a,b=(par a b)}) c)"},
		{"f(env { a = 1, 2; }, c)", "(call f (env {a=(par 1 2)}) c)"}, {"f(par(i, 2, i), c)", "(call f (iter.par[i] 2 i) c)"}, {"[a : b, c <: d, (e, f)]", "(list (seq a b) (split c d) (par e f))"},
		{"par(i, a : b, c ~ d : (e, f))", "(iter.par[i] (seq a b) (seq (rec c d) (par e f)))"}, {"sum(i, (a, b), c <: d)", "(iter.sum[i] (par a b) (split c d))"}, {"f(-1, 2 : -3)", "(call f -1 (seq 2 -3))"}, {"f(a, b), c", "(par (call f a b) c)"},
		{"[f(a, b), c], d", "(par (list (call f a b) c) d)"}, {`\(x).(x, y), z`, "(par (fun[x] (par x y)) z)"}, {"case { (x) => x, y; }, z", "(par (case {,x=(par x y)}) z)"},
	})
}

// P4.1: numbers: with a dot, with a slash, and with such as do not count to them; a minus right ahead of a digit.
func TestNumbers(t *testing.T) {
	readAll(t, []exprCase{
		{"0", "0"}, {"007", "7"}, {"1073741824", "1073741824"}, {"-1073741824", "-1073741824"}, {"2.50", "5/2"}, {"0.000000001", "1/1000000000"}, {"6/4", "3/2"}, {"0/5", "0"}, {"-0", "0"}, {"-0.25", "-1/4"}, {"-6/4", "-3/2"}, {"0000000012/0000000016", "3/4"},
		{"1//2\n", "1"}, {"1/2//3", "1/2"}, {"1.5// x", "3/2"}, {"-1//2", "-1"}, {"1.x", "(dot.x 1)"}, {"1 .x", "(dot.x 1)"}, {"1. x", "(dot.x 1)"}, {"1.2.x3", "(dot.x3 6/5)"}, {"7/8.x(9)", "(call (dot.x 7/8) 9)"},
		{"1,2:3", "(seq (par 1 2) 3)"}, {"1~2", "(rec 1 2)"}, {"-1,-2:-3", "(seq (par -1 -2) -3)"}, {"-1:>-2<:-3~-4", "(split (merge -1 -2) (rec -3 -4))"}, {"(-1)", "-1"}, {"[-1,-2]", "(list -1 -2)"}, {"f(-1)(-2)", "(call (call f -1) -2)"},
		{`\(x).(-1)`, "(fun[x] -1)"}, {"par(i,-1,-2)", "(iter.par[i] -1 -2)"}, {"case{(-1,-1/2)=>-2;}", "(case {,-1,-1/2=-2})"}, {"env{a=-1;f(-1)=-2;}", "(env {a=-1; f,-1=-2})"}, {"-", "#sub"}, {"(- , 1)", "(par #sub 1)"}, {"- //1\n,1", "(par #sub 1)"},
	})
}

// P4.1: the longest sign that stands there, without blanks around.
func TestLongestSigns(t *testing.T) {
	readAll(t, []exprCase{
		{"a<:b:>c", "(merge (split a b) c)"}, {"a:<", "(seq a #lt)"}, {"a:<=", "(seq a #le)"}, {"a:<<", "(seq a #shl)"}, {"a: >>:b", "(seq (seq a #shr) b)"}, {"a:>>>:b", "(merge a (seq #shr b))"}, {"a:==", "(seq a #eq)"}, {"a:!=", "(seq a #ne)"}, {"a:!", "(seq a cut)"}, {"!:!=", "(seq cut #ne)"}, {"<~<", "(rec #lt #lt)"},
		{"<<<:<", "(split #shl #lt)"}, {"<<:<", "(seq #shl #lt)"}, {"<=<:<=", "(split #le #le)"}, {"==:==", "(seq #eq #eq)"}, {"-~-", "(rec #sub #sub)"}, {"/,/", "(par #div #div)"}, {"*:%:&:|:^", "(seq (seq (seq (seq #mul #mod) #and) #or) #xor)"},
		{"_:_", "(seq wire wire)"}, {"_<:_:>_", "(merge (split wire wire) wire)"}, {"_~_,_", "(par (rec wire wire) wire)"}, {"(_)(_)", "(call wire wire)"}, {"a:(_)", "(seq a wire)"}, {"_//_\n:_", "(seq wire wire)"},
		{"case{(0)=>==;}", "(case {,0=#eq})"}, {"case{(0)=>>>;}", "(case {,0=#shr})"}, {"env{a= ==;}", "(env {a=#eq})"}, {"env{a=!;}", "(env {a=cut})"}, {"env{a=<<;b=<=;}", "(env {a=#shl; b=#le})"},
	})
}

// P4.1: sources.
func TestSources(t *testing.T) {
	for _, c := range []exprCase{
		{"", ""}, {" \t\n", ""}, {"// nothing", ""}, {"//\n//", ""}, {"a = 1;", "a=1"}, {"a=1;b=2;a=3;", "a=1; b=2; a=3"}, {"f(0) = 1; f(n) = n; f = 2; f(a, b) = a;", "f,0=1; f,n=n; f=2; f,a,b=a"},
		{"f(1, x, 1, y, 1/2) = x , y;", "f,1,x,1,y,1/2=(par x y)"}, {"f(f) = f;", "f,f=f"}, {"f(-1, -1.5) = -2;", "f,-1,-3/2=-2"}, {"a = b with { b = 1; };", "a=(with b {b=1})"}, {"a = \\(x).(x); b = a(1) : a;", "a=(fun[x] x); b=(seq (call a 1) a)"},
		{strings.Repeat("n", api.MaxName) + " = 1;", strings.Repeat("n", api.MaxName) + "=1"}, {"x_ = 1; X__1 = 2; none = 3; parse = 4; wit = 5; withx = 6;", "x_=1; X__1=2; none=3; parse=4; wit=5; withx=6"},
	} {
		got := mustParse(t, c.source)
		if dumpDefs(got) != c.want {
			t.Errorf("Parse(%q): got %s, want %s", c.source, dumpDefs(got), c.want)
		}
		if !term.Valid(env(got...)) {
			t.Errorf("Parse(%q) is not valid", c.source)
		}
	}
}

// P4.1: names, words and texts.
func TestNamesAndTexts(t *testing.T) {
	for _, s := range []string{"a", "z", "A", "Z", "a0", "a9", "a_", "a__b", "par_", "pars", "PAR", "Par", "xpar", "seq1", "sums", "withs", "cases", "envs", "wire", "num", strings.Repeat("x", api.MaxName)} {
		if got := mustExpr(t, s); !same(got, name(s)) {
			t.Errorf("Expr(%q): got %#v", s, got)
		}
	}
	for c := byte(32); c < 127; c++ {
		if s := "a" + string(c) + "b"; c != '"' {
			if got := mustExpr(t, `"`+s+`"`); !same(got, text(s)) {
				t.Errorf("the text %q: got %#v", s, got)
			}
		}
	}
	for _, s := range []string{"", " ", "//", "// a\\", "par", "_", "1/2", strings.Repeat("~", api.MaxName)} {
		if got := mustExpr(t, `"`+s+`"`); !same(got, text(s)) {
			t.Errorf("the text %q: got %#v", s, got)
		}
	}
}

// The chapter's examples, in order; of the fourth one what is read, the rest is among what is refused.
func TestExamples(t *testing.T) {
	add := operator("add")
	x := mustParse(t, "x = 1, 2 : +;")
	if !sameDefs(x, []api.Def{def("x", two("seq", two("par", num(1, 1), num(2, 1)), add))}) {
		t.Errorf("1: %#v", x)
	}
	if got := mustExpr(t, "a <: b : c"); !same(got, two("split", name("a"), two("seq", name("b"), name("c")))) {
		t.Errorf("2: %#v", got)
	}
	f := mustParse(t, "f(0) = 1; f(n) = n, f(g(n)) : *;")
	body := two("seq", two("par", name("n"), call(name("f"), call(name("g"), name("n")))), operator("mul"))
	if !sameDefs(f, []api.Def{def("f", num(1, 1), num(0, 1)), def("f", body, name("n"))}) {
		t.Errorf("3: %#v", f)
	}
	if got := mustExpr(t, "-3"); !same(got, num(-3, 1)) {
		t.Errorf("4: %#v", got)
	}
	if got := mustExpr(t, "1/2"); !same(got, num(1, 2)) {
		t.Errorf("4: %#v", got)
	}
	if got := mustExpr(t, "_ ~ (_ , 1 : +)"); !same(got, two("rec", wire(), two("seq", two("par", wire(), num(1, 1)), add))) {
		t.Errorf("5: %#v", got)
	}
}
