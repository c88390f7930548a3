package define_test

import (
	"fmt"
	"strings"
	"testing"

	"serinette/api"
	"serinette/block"
	"serinette/define"
	"serinette/ratio"
	"serinette/term"
)

// nameOf returns the name of an error.
func nameOf(err api.Errno) string {
	switch err {
	case api.OK:
		return "OK"
	case api.ErrArg:
		return "ErrArg"
	case api.ErrForm:
		return "ErrForm"
	case api.ErrLimit:
		return "ErrLimit"
	case api.ErrTwice:
		return "ErrTwice"
	case api.ErrPorts:
		return "ErrPorts"
	case api.ErrName:
		return "ErrName"
	case api.ErrMatch:
		return "ErrMatch"
	case api.ErrNumber:
		return "ErrNumber"
	}
	return fmt.Sprint("Errno ", int(err))
}

// told returns what an evaluation gives as one text: that of the block, or the error and where it lies ("ErrName x"; "ErrName" of the term that was given).
func told(b api.Block, where string, err api.Errno) string {
	if err != api.OK {
		if b.Op != "" || b.Name != "" || b.N != 0 || b.M != 0 || b.Format != (api.Format{}) || len(b.Nums) > 0 || len(b.Kids) > 0 {
			return "a block beside an error: " + nameOf(err)
		}
		return strings.TrimSpace(nameOf(err) + " " + where)
	}
	if where != "" {
		return "a place beside a block: " + where
	}
	text, err := block.Text(b)
	if err != api.OK {
		return "no text: " + nameOf(err)
	}
	return text
}

// sources tries the x of sources: pairs of a source and what it gives.
func sources(t *testing.T, l ...[2]string) {
	t.Helper()
	for _, c := range l {
		if got := told(define.Source(c[0], "x")); got != c[1] {
			t.Errorf("%.300s\ngot  %.300s\nwant %.300s", c[0], got, c[1])
		}
	}
}

// bodies tries sources that have x alone: pairs of its body and what it gives.
func bodies(t *testing.T, l ...[2]string) {
	t.Helper()
	for _, c := range l {
		sources(t, [2]string{"x = " + c[0] + ";", c[1]})
	}
}

// refused tries sources that have x alone, whose body is refused there.
func refused(t *testing.T, want api.Errno, l ...string) {
	t.Helper()
	for _, s := range l {
		bodies(t, [2]string{s, nameOf(want) + " x"})
	}
}

// mustParse reads definitions.
func mustParse(t *testing.T, source string) []api.Def {
	t.Helper()
	defs, place, err := term.Parse(source)
	if err != api.OK {
		t.Fatalf("Parse(%.300q): place %d, %v", source, place, err)
	}
	return defs
}

// mustExpr reads an expression.
func mustExpr(t *testing.T, text string) api.Term {
	t.Helper()
	e, place, err := term.Expr(text)
	if err != api.OK {
		t.Fatalf("Expr(%.300q): place %d, %v", text, place, err)
	}
	return e
}

// mustBlock reads a block.
func mustBlock(t *testing.T, text string) api.Block {
	t.Helper()
	b, err := block.Parse(text)
	if err != api.OK {
		t.Fatalf("Parse(%.300q): %v", text, err)
	}
	return b
}

// shelf reads libraries: pairs of a name and a source.
func shelf(t *testing.T, l ...[2]string) []define.Library {
	t.Helper()
	var libraries []define.Library
	for _, c := range l {
		libraries = append(libraries, define.Library{Name: c[0], Defs: mustParse(t, c[1])})
	}
	return libraries
}

func name(s string) api.Term { return api.Term{Op: "name", Text: s} }

// P6.1, the chapter's examples.
func TestExamples(t *testing.T) {
	const factorial = "f(0) = 1; f(n) = (n, f((n, 1 : -))) : *; x = f(3);"
	sources(t, [2]string{factorial, "(seq (par (num 3) (seq (par (seq (par (num 3) (num 1)) sub) (seq (par (seq (par (seq (par (num 3) (num 1)) sub) (num 1)) sub) (num 1)) mul)) mul)) mul)"})
	b, _, _ := define.Source(factorial, "x")
	if q, ok := define.Number(b); q != (api.Q{N: 6, D: 1}) || !ok {
		t.Errorf("Number: got %v, %t", q, ok)
	}
	bodies(t,
		[2]string{"+(1)", "(seq (par (num 1) wire) add)"},
		[2]string{"y", "ErrName x"},
		[2]string{"par(i, 3, delay(i))", "(par (par (delay 0) (delay 1)) (delay 2))"},
		[2]string{"(_ , _) : !", "ErrPorts x"},
	)
	bodies(t,
		[2]string{"+ ~ delay(1)", "(rec add (delay 1))"},
		[2]string{"+ ~ _", "(rec add wire)"},
		[2]string{"_ <: par(i, 3, delay(i)) :> _", "(merge (split wire (par (par (delay 0) (delay 1)) (delay 2))) wire)"},
		[2]string{"+ ~ (delay(1) : *(1/2))", "(rec add (seq (delay 1) (seq (par (num 1/2) wire) mul)))"},
	)
}

// P6.1: Source, and what it refuses.
func TestSource(t *testing.T) {
	const source = "a = 1; b = a, a; f(n) = n; c = d; neg = !;"
	for name, want := range map[string]string{
		"a": "(num 1)", "b": "(par (num 1) (num 1))", "f": "ErrArg", "c": "ErrName c", "d": "ErrName", "neg": "cut", "abs": "abs", "delay": "ErrArg",
		"": "ErrArg", "1": "ErrArg", "_": "ErrArg", "a b": "ErrArg", " a": "ErrArg", "a;": "ErrArg", "par": "ErrArg", "env": "ErrArg", "+": "ErrArg", "\"a\"": "ErrArg", "é": "ErrArg", strings.Repeat("a", api.MaxName): "ErrName", strings.Repeat("a", api.MaxName+1): "ErrArg",
	} {
		if got := told(define.Source(source, name)); got != want {
			t.Errorf("%q: got %s, want %s", name, got, want)
		}
	}
	for source, want := range map[string]string{
		"": "ErrName", " // nothing": "ErrName", "y = 1;": "ErrName", "x = 1": "ErrForm", "x = ;": "ErrForm", "x = @;": "ErrForm", "x": "ErrForm", "x = 1/0;": "ErrForm", "x = 1073741825;": "ErrForm", "x = case { (0) => 1; (1, 2) => 3; };": "ErrForm",
		`x = \(a, a).(1);`: "ErrTwice", "x = case { (a, a) => 1; };": "ErrTwice", "f(a, a) = 1; x = y;": "ErrTwice",
		strings.Repeat(" ", api.MaxText+1): "ErrLimit", "x = 1" + strings.Repeat(",1", api.MaxTerm/2) + ";": "ErrLimit", "x = " + strings.Repeat("[", api.MaxNest) + "1" + strings.Repeat("]", api.MaxNest) + ";": "ErrLimit",
		"x = 1; x = 2; y = @;": "ErrForm", "x = 1; x = 2; y = y": "ErrForm", "x = 1; x = 2;": "ErrTwice", "x = y; x = 2; y = @": "ErrForm",
	} {
		for _, name := range []string{"x", "par"} {
			if name == "par" && (want == "ErrName" || source == "x = 1; x = 2;") {
				continue
			}
			if got := told(define.Source(source, name)); got != want {
				t.Errorf("%q of %.100q: got %s, want %s", name, source, got, want)
			}
		}
	}
	if got := told(define.Source("x = 1; x = 2;", "par")); got != "ErrArg" {
		t.Errorf("a name that is none, ahead of definitions twice: got %s", got)
	}
}

// P6.1: terms that are not valid come ahead of all else, wherever they are.
func TestNotValid(t *testing.T) {
	good, twice := mustParse(t, "a = 1; f(0) = 1; f(n) = n;"), mustParse(t, "a = 1; a = 2;")
	bad := map[string]api.Term{
		"nothing": {}, "no op": {Op: "add"}, "no number": {Op: "num"}, "not in lowest terms": {Op: "num", Num: api.Q{N: 2, D: 2}}, "a field too many": {Op: "wire", Text: "a"}, "a kid too few": {Op: "par", Kids: []api.Term{name("a")}}, "no argument": {Op: "call", Kids: []api.Term{name("f")}}, "no name": name("1"), "a word": name("par"), "deep": {Op: "list", Kids: []api.Term{name("a"), {Op: "dot", Text: "b"}}},
		"a definition within": {Op: "env", Defs: []api.Def{{Name: "a"}}}, "a rule within": {Op: "case", Defs: []api.Def{{Args: []api.Term{name("a"), name("a")}, Body: name("a")}}},
	}
	refuse := func(what string, defs []api.Def, e api.Term, libraries []define.Library) {
		t.Helper()
		if got := told(define.Eval(defs, e, libraries)); got != "ErrArg" {
			t.Errorf("%s: got %s", what, got)
		}
	}
	for what, e := range bad {
		refuse(what, good, e, nil)
		refuse(what, twice, e, nil)
		defs := append(mustParse(t, "b = 1;"), api.Def{Name: "unused", Body: e})
		for _, given := range []api.Term{name("b"), name("nothing"), {Op: "text", Text: "t"}} {
			refuse(what+" in a definition", defs, given, nil)
			refuse(what+" in a definition, beside two of one name", append(twice, defs...), given, nil)
			refuse(what+" in a library", good, given, []define.Library{{Name: "l", Defs: good}, {Name: "k", Defs: defs}})
			refuse(what+" in a second library of one name", good, given, []define.Library{{Name: "l", Defs: good}, {Name: "l", Defs: defs}})
			refuse(what+" in a library of no name", good, given, []define.Library{{Defs: defs}})
			refuse(what+" in a body with patterns", append(mustParse(t, "b = 1;"), api.Def{Name: "f", Args: []api.Term{name("n")}, Body: e}), given, nil)
		}
	}
	for what, d := range map[string]api.Def{
		"no name": {Body: name("b")}, "a name that is none": {Name: "1", Body: name("b")}, "a word": {Name: "env", Body: name("b")}, "a pattern that is none": {Name: "f", Args: []api.Term{{Op: "wire"}}, Body: name("b")}, "a number that is none": {Name: "f", Args: []api.Term{{Op: "num"}}, Body: name("b")}, "one name twice": {Name: "f", Args: []api.Term{name("n"), name("n")}, Body: name("b")},
	} {
		refuse(what, append(mustParse(t, "b = 1;"), d), name("b"), nil)
		refuse(what+" in a library", mustParse(t, "b = 1;"), name("b"), []define.Library{{Name: "l", Defs: []api.Def{d}}})
	}
	if got := told(define.Eval(nil, mustExpr(t, "1 , _"), nil)); got != "(par (num 1) wire)" {
		t.Errorf("a term alone: got %s", got)
	}
	if got := told(define.Eval([]api.Def{}, mustExpr(t, "l.a"), []define.Library{{}, {Name: "", Defs: good}, {Name: "par", Defs: good}, {Name: "l", Defs: good}})); got != "(num 1)" {
		t.Errorf("libraries whose names are none: got %s", got)
	}
}

// P6.1: the value must be a block.
func TestNoBlock(t *testing.T) {
	for _, s := range []string{`"t"`, `""`, "[1]", "[_ , !]", "env { }", "env { x = 1; }", `\(a).(a)`, "case { (0) => 1; }", "f", "e.f", "l", "l.f", "(f with { })", `\(a).(a)("t")`, `f("t")`, "f(f)"} {
		defs := mustParse(t, "f(n) = n; e = env { f(n) = n; };")
		if got := told(define.Eval(defs, mustExpr(t, s), shelf(t, [2]string{"l", "f(n) = n;"}))); got != "ErrArg" {
			t.Errorf("%s: got %s", s, got)
		}
	}
	bodies(t, [2]string{`"t"`, "ErrArg"}, [2]string{"[1]", "ErrArg"}, [2]string{"env { }", "ErrArg"}, [2]string{`\(a).(a)`, "ErrArg"})
	sources(t, [2]string{"x = y; y = [1];", "ErrArg"}, [2]string{"x(a) = 1;", "ErrArg"}, [2]string{"x(0) = 1; x(1) = y;", "ErrArg"})
}

// P6.1: paths are asked for at last, in the whole.
func TestPathsOfTheWhole(t *testing.T) {
	const two = `(show("a") , show("a"))`
	bodies(t,
		[2]string{two, "ErrTwice"},
		[2]string{two + " : +", "ErrTwice"}, [2]string{two + "(1, 2)", "ErrTwice"}, [2]string{two + " ~ _", "ErrTwice"}, [2]string{two + " :> _", "ErrTwice"}, [2]string{"_ <: " + two, "ErrTwice"},
		[2]string{`par(i, 2, show("a"))`, "ErrTwice"}, [2]string{`seq(i, 2, show("a"))`, "ErrTwice"}, [2]string{`sum(i, 2, show("a"))`, "ErrTwice"}, [2]string{"up(2, " + two + ")", "ErrTwice"}, [2]string{"down(2, " + two + ")", "ErrTwice"}, [2]string{"gate(" + two + ")", "ErrTwice"}, [2]string{"reset(" + two + ")", "ErrTwice"},
		[2]string{two + "(_, _)(_, _)", "ErrTwice"},
		[2]string{`show("a")(show("a"))`, "ErrTwice"},
		[2]string{`knob("a", 0, 0, 1, 0) : show("a")`, "ErrTwice"}, [2]string{`knob("a", 0, 0, 1, 0) , knob("a", 1, 0, 1, 0)`, "ErrTwice"},
		[2]string{`knob("a", 0, 0, 1, 0) , knob("a", 0, 0, 1, 0)`, `(par (knob "a" 0 0 1 0) (knob "a" 0 0 1 0))`},
		[2]string{`show("a") , show("b")`, `(par (show "a") (show "b"))`},
		[2]string{`\(a).(_)(` + two + ")", "wire"},
		[2]string{two + " : y", "ErrName x"}, [2]string{two + " : _", "ErrPorts x"}, [2]string{two + "(1, 2, 3)", "ErrPorts x"}, [2]string{"up(9, " + two + ")", "ErrArg x"}, [2]string{"sum(i, 2, " + two + ")", "ErrPorts x"}, [2]string{"[" + two + "]", "ErrArg"},
		[2]string{"case { (0) => 1; (n) => 2; }(" + two + ")", "(num 2)"}, [2]string{"delay(" + two + ")", "ErrNumber x"},
	)
	sources(t, [2]string{`y = show("a"); x = y , y;`, "ErrTwice"}, [2]string{`y = show("a") , show("a"); x = y : +;`, "ErrTwice"})
}

// R4: results are new memory, and arguments stay as they are; equal calls choose alike.
func TestMemory(t *testing.T) {
	const source = `big = table([1, 2]); twice(a) = a , a; x = twice(twice(big)) , par(i, 2, big) , twice(up(2, big)) , (big with { }) , fix(1, 2, "near", "sat");`
	defs, libraries := mustParse(t, source), shelf(t, [2]string{"l", source})
	before, _ := term.Print(defs)
	want := told(define.Eval(defs, name("x"), nil))
	for _, e := range []api.Term{name("x"), mustExpr(t, "l.x"), mustExpr(t, "twice(l.big) , par(i, 2, l.x) : \\(a).(a)(cut) with { cut = !; }")} {
		b, where, err := define.Eval(defs, e, libraries)
		first := told(b, where, err)
		scramble(&b, 0)
		if again := told(define.Eval(defs, e, libraries)); again != first {
			t.Errorf("got %s, then %s", first, again)
		}
	}
	b, _, _ := define.Eval(defs, name("x"), nil)
	if n := scramble(&b, 0); n != block.Size(b) {
		t.Errorf("scrambled %d of %d blocks", n, block.Size(b))
	}
	if got := told(define.Eval(defs, name("x"), nil)); got != want {
		t.Errorf("got %s, want %s", got, want)
	}
	if after, _ := term.Print(defs); after != before {
		t.Errorf("definitions are changed to %s", after)
	}
}

// scramble writes another number into each block of b and into all its Nums, and counts the blocks that had none written into them ahead of that.
func scramble(b *api.Block, n int) int {
	fresh := b.M < 1000
	for i := range b.Nums {
		fresh = fresh && b.Nums[i].D < 1000
		b.Nums[i] = api.Q{N: 7, D: 1001}
	}
	b.M = 1000
	if fresh {
		n++
	}
	for i := range b.Kids {
		n = scramble(&b.Kids[i], n)
	}
	return n
}

// R1: what is deep, long or endless.
func TestTerminates(t *testing.T) {
	deep := name("a")
	for range 1 << 15 {
		deep = api.Term{Op: "list", Kids: []api.Term{deep}}
	}
	if got := told(define.Eval(nil, deep, nil)); got != "ErrLimit" {
		t.Errorf("a deep term: got %s", got)
	}
	b := block.Leaf("wire")
	for range 1 << 15 {
		b = api.Block{Op: "up", N: 1, Kids: []api.Block{b}}
	}
	for _, b := range []api.Block{b, {Op: "seq", Kids: []api.Block{{Op: "num", Nums: []api.Q{ratio.Make(1, 1)}}, b}}} {
		if q, ok := define.Number(b); q != (api.Q{}) || ok {
			t.Errorf("a deep block: got %v, %t", q, ok)
		}
	}
}
