package define_test

import (
	"strings"
	"testing"

	"serinette/api"
	"serinette/block"
	"serinette/define"
	"serinette/ratio"
)

// number returns the number that a block is as a text; "-": it is none.
func number(b api.Block) string {
	q, ok := define.Number(b)
	switch {
	case !ok && q != api.Q{}:
		return "a number that is none: " + ratio.Text(q)
	case !ok:
		return "-"
	}
	return ratio.Text(q)
}

// numbers tries blocks: pairs of a block's text and the number that it is.
func numbers(t *testing.T, l ...[2]string) {
	t.Helper()
	for _, c := range l {
		if got := number(mustBlock(t, c[0])); got != c[1] {
			t.Errorf("%.300s: got %s, want %s", c[0], got, c[1])
		}
	}
}

// terms tries terms: pairs of a text and the number that its block is.
func terms(t *testing.T, l ...[2]string) {
	t.Helper()
	for _, c := range l {
		b, where, err := define.Source("x = "+c[0]+";", "x")
		if err != api.OK {
			t.Errorf("%.300s: %s", c[0], told(b, where, err))
			continue
		}
		if got := number(b); got != c[1] {
			t.Errorf("%.300s: got %s, want %s", c[0], got, c[1])
		}
	}
}

// P6.1: numbers of blocks without ins, by each op.
func TestNumber(t *testing.T) {
	numbers(t, [2]string{"(num 1/2)", "1/2"}, [2]string{"(num 0)", "0"}, [2]string{"(num -1073741824)", "-1073741824"}, [2]string{"(num none)", "-"})
	terms(t,
		[2]string{"neg(1/2)", "-1/2"}, [2]string{"neg(-3)", "3"}, [2]string{"abs(-3/2)", "3/2"}, [2]string{"abs(3)", "3"}, [2]string{"floor(-1/2)", "-1"}, [2]string{"floor(7/2)", "3"}, [2]string{"round(5/2)", "2"}, [2]string{"round(-3/2)", "-2"}, [2]string{"round(7/3)", "2"}, [2]string{"frac(-1/4)", "3/4"}, [2]string{"frac(9/4)", "1/4"}, [2]string{"not(0)", "1"}, [2]string{"not(1)", "0"}, [2]string{"not(-1/2)", "0"},
		[2]string{"+(1/2, 1/3)", "5/6"}, [2]string{"-(1/2, 1/3)", "1/6"}, [2]string{"*(2/3, 3/4)", "1/2"}, [2]string{"/(2/3, 4)", "1/6"}, [2]string{"%(-7, 3)", "2"}, [2]string{"%(7, -3)", "-2"}, [2]string{"min(2, -3)", "-3"}, [2]string{"max(2, -3)", "2"}, [2]string{"min(-3, 2)", "-3"}, [2]string{"max(-3, 2)", "2"},
		[2]string{"<(1, 2)", "1"}, [2]string{"<(2, 2)", "0"}, [2]string{"<=(2, 2)", "1"}, [2]string{"<=(3, 2)", "0"}, [2]string{"==(1/2, 0.5)", "1"}, [2]string{"==(1, 2)", "0"}, [2]string{"!=(1, 2)", "1"}, [2]string{"!=(2, 2)", "0"},
		[2]string{"&(6, 3)", "2"}, [2]string{"|(6, 3)", "7"}, [2]string{"^(6, 3)", "5"}, [2]string{"&(-1, 6)", "6"}, [2]string{"<<(3, 2)", "12"}, [2]string{">>(13, 2)", "3"}, [2]string{">>(-1, 5)", "-1"},
		[2]string{"pick(0, 5, 6)", "5"}, [2]string{"pick(1, 5, 6)", "6"}, [2]string{"pick(-1/2, 5, 6)", "6"}, [2]string{"_(5)", "5"}, [2]string{`fix(1, 2, "near", "sat")(3/8)`, "1/2"}, [2]string{`fix(1, 2, "near", "sat")(5)`, "7/4"}, [2]string{`fix(1, 2, "near", "wrap")(5/2)`, "-3/2"}, [2]string{`fix(1, 2, "near", "none")(5)`, "-"}, [2]string{`float(2, 1, "near", "sat")(5)`, "4"}, [2]string{`float(2, 1, "near", "sat")(7)`, "6"}, [2]string{`float(2, 1, "near", "none")(7)`, "-"},
	)
}

// P6.1: no number, or none, comes of these.
func TestNoneOfNumbers(t *testing.T) {
	terms(t,
		[2]string{"/(1, 0)", "-"}, [2]string{"%(1, 0)", "-"}, [2]string{"/(0, 0)", "-"}, [2]string{"+(1073741824, 1)", "-"}, [2]string{"*(1073741824, 2)", "-"}, [2]string{"&(1/2, 1)", "-"}, [2]string{"<<(1, 31)", "-"}, [2]string{"<<(1, -1)", "-"}, [2]string{">>(1, 63)", "-"}, [2]string{"+(/(1, 0), 1)", "-"}, [2]string{"neg(/(1, 0))", "-"}, [2]string{"not(/(1, 0))", "-"}, [2]string{"==(/(1, 0), /(1, 0))", "-"}, [2]string{"min(1, /(1, 0))", "-"}, [2]string{"*(0, /(1, 0))", "-"}, [2]string{`fix(1, 2, "near", "sat")(/(1, 0))`, "-"},
		[2]string{"pick(/(1, 0), 1, 1)", "-"}, [2]string{"pick(0, /(1, 0), 1)", "-"}, [2]string{"pick(1, 1, /(1, 0))", "-"}, [2]string{"pick(0, 1, /(1, 0))", "1"}, [2]string{"pick(1, /(1, 0), 2)", "2"},
		[2]string{"(1 , 0 : /) , 5 : ! , _", "5"}, [2]string{"5 , (1 , 0 : /) : _ , !", "5"}, [2]string{"(1 , 0 : /) , 5 : _ , !", "-"}, [2]string{"(1 , 0 : /) , 5 :> _", "-"},
	)
	numbers(t, [2]string{"(seq (num none) neg)", "-"}, [2]string{"(seq (par (num none) (num 2)) (par cut wire))", "2"}, [2]string{"(seq (par (par (num 0) (num 3)) (num none)) pick)", "3"}, [2]string{"(seq (num none) wire)", "-"}, [2]string{"(seq (num none) cut)", "-"})
}

// P6.1: which ins and outs are joined.
func TestNumbersOfCompositions(t *testing.T) {
	terms(t,
		[2]string{"1 , 2 : -", "-1"}, [2]string{"(1 , 2) , 3 : (_ , -) : -", "2"}, [2]string{"(1 , 2) , 3 : (- , _) : -", "-4"}, [2]string{"1 , (! , 2 : !) : _", "-"},
		[2]string{"5 <: -", "0"}, [2]string{"5 , 3 <: (- , (- : neg)) : +", "0"}, [2]string{"5 , 3 <: (- , *) : -", "-13"}, [2]string{"5 , 3 <: (_ , - , _) : pick", "3"}, [2]string{"0 , 3 <: (_ , - , _) : pick", "3"}, [2]string{"7 <: _", "7"}, [2]string{"1 , 5 , 3 <: pick , pick : -", "0"}, [2]string{"1 , 5 <: (_ , ! , ! , _) : -", "-4"}, [2]string{"1 , 5 <: (_ , _ , _ , !) : pick", "1"},
		[2]string{"1 , 2 , 3 :> _", "6"}, [2]string{"1 , 2 , 3 , 4 :> -", "-2"}, [2]string{"1 , 2 , 4 , 8 , 16 , 32 :> -", "-21"}, [2]string{"1 , 2 , 3 , 4 , 5 , 6 :> pick", "9"}, [2]string{"5 :> neg", "-5"}, [2]string{"1 , 2 :> -", "-1"}, [2]string{"1073741824 , 1 , -5 :> _", "-"}, [2]string{"1073741824 , -5 , 1 :> _", "1073741820"},
		[2]string{"sum(i, 5, i)", "10"}, [2]string{"seq(i, 1, 7)", "7"}, [2]string{"seq(i, 3, case { (0) => 5; (n) => neg; }(i))", "5"}, [2]string{"-(1)(3)", "-2"}, [2]string{"par(i, 2, i) : (-(_, 4) , !)", "-4"}, [2]string{"! : 5", "-"}, [2]string{"(1 : !) , 5", "5"}, [2]string{"5 , (1 : !)", "5"}, [2]string{"(1 : ! : 4) , (2 : !)", "4"}, [2]string{"(1 , 2 : ! , !) : 6", "6"}, [2]string{"(1 : !) : 6", "6"},
	)
}

// P6.1: blocks that are no numbers: with ins, with other outs, of other ops, and such that are refused.
func TestNoNumbers(t *testing.T) {
	numbers(t,
		[2]string{"wire", "-"}, [2]string{"cut", "-"}, [2]string{"add", "-"}, [2]string{"pick", "-"}, [2]string{"(seq (par (num 1) wire) add)", "-"}, [2]string{"(par (num 1) (num 2))", "-"}, [2]string{"(seq (num 1) cut)", "-"}, [2]string{"(par (num 1) cut)", "-"}, [2]string{"(seq cut (num 1))", "-"}, [2]string{"(fit fix(1,2,near,sat))", "-"}, [2]string{"(par (seq (num 1) cut) (seq (num 2) cut))", "-"},
		[2]string{"(wave 1)", "-"}, [2]string{`(knob "a" 1 1 1 0)`, "-"}, [2]string{"(up 1 (num 1))", "-"}, [2]string{"(down 1 (num 1))", "-"}, [2]string{"(gate (num 1))", "-"}, [2]string{"(rec wire wire)", "-"}, [2]string{"(rec neg wire)", "-"}, [2]string{"(rec (seq wire (par wire cut)) (num 1))", "-"}, [2]string{"(rec (seq (par wire cut) wire) wire)", "-"},
		[2]string{"(seq (num 1) (delay 0))", "-"}, [2]string{"(seq (num 1) (table 1))", "-"}, [2]string{`(seq (num 1) (show "a"))`, "-"}, [2]string{"(seq (par (num 1) (num 0)) (vary 0 0))", "-"}, [2]string{"(seq (par (par (num 0) (num 1)) (num 0)) (store 1))", "-"}, [2]string{"(seq (num 1) (gate (num 1)))", "-"}, [2]string{"(seq (num 0) (reset (num 1)))", "-"}, [2]string{"(seq (par (num 1) (wave 1)) (par wire cut))", "-"}, [2]string{"(par (num 1) (seq (num 1) (seq (delay 0) cut)))", "-"}, [2]string{"(rec wire (num 1))", "-"}, [2]string{"(rec add (par wire wire))", "-"},
		[2]string{"(seq (num 1) add)", "-"}, [2]string{"(seq (par (num 1) (num 2)) neg)", "-"}, [2]string{"(par (num 1) (seq cut wire))", "-"}, [2]string{"(split (seq (num 1) cut) (num 1))", "-"}, [2]string{"(merge (seq (num 1) cut) (num 1))", "-"}, [2]string{"(merge (num 1) (num 2))", "-"}, [2]string{"(split (par (num 1) (num 2)) wire)", "-"}, [2]string{"(merge (num 1) (seq (par wire wire) add))", "-"},
	)
	one := block.Num(ratio.Make(1, 1))
	for what, b := range map[string]api.Block{
		"nothing": {}, "no op": {Op: "text"}, "a num without Nums": {Op: "num"}, "a num with two": {Op: "num", Nums: []api.Q{ratio.Make(1, 1), ratio.Make(2, 1)}}, "a Q that is no number": {Op: "num", Nums: []api.Q{{N: 2, D: 2}}}, "another field": {Op: "num", N: 1, Nums: []api.Q{ratio.Make(1, 1)}}, "a name": {Op: "num", Name: "a", Nums: []api.Q{ratio.Make(1, 1)}},
		"a num with a Kid": {Op: "num", Nums: []api.Q{ratio.Make(1, 1)}, Kids: []api.Block{one}}, "a neg with a Kid": {Op: "neg", Kids: []api.Block{one}}, "a par without Kids": {Op: "par"}, "a par with one": {Op: "par", Kids: []api.Block{one}}, "a seq with three": {Op: "seq", Kids: []api.Block{one, block.Leaf("wire"), block.Leaf("wire")}}, "a bad Kid": {Op: "seq", Kids: []api.Block{one, {Op: "neg", M: 1}}}, "an empty Kid": {Op: "seq", Kids: []api.Block{one, {}}}, "a format that is none": {Op: "seq", Kids: []api.Block{one, {Op: "fit"}}}, "a fit with a wrong one": {Op: "seq", Kids: []api.Block{one, {Op: "fit", Format: api.Format{Kind: "fix", I: 31, Round: "near", Over: "sat"}}}},
		"a row that is too long": block.Join("seq", block.Row(ones(59)), block.Join("seq", block.Row(cuts(59)), one)), "a row that is too deep": block.Join("merge", block.Row(ones(60)), block.Leaf("wire")),
	} {
		if got := number(b); got != "-" {
			t.Errorf("%s: got %s", what, got)
		}
	}
	if got := number(block.Join("merge", block.Row(ones(59)), block.Leaf("wire"))); got != "59" {
		t.Errorf("a sum of 59: got %s", got)
	}
}

// ones returns nums of 1.
func ones(n int) []api.Block {
	var l []api.Block
	for range n {
		l = append(l, block.Num(ratio.Make(1, 1)))
	}
	return l
}

// cuts returns cuts.
func cuts(n int) []api.Block {
	var l []api.Block
	for range n {
		l = append(l, block.Leaf("cut"))
	}
	return l
}

// P6.1: numbers where they are asked for are the numbers of blocks, whatever these are made of.
func TestNumbersWhereTheyAreAsked(t *testing.T) {
	for _, s := range []string{"3", "1 , 2 : +", "sum(i, 3, i)", "f(3)", "5 <: - , (! : 3) :> _", "pick(0, 3, (1 , 0 : /))", "(1 , 0 : /) , 3 : ! , _", "not(0) , 2 : +", `fix(4, 0, "near", "sat")(10/3)`, "(1 : !) , 3", "3 , (4 : !)", "a.b", "1/3 <: / , 2 : +"} {
		const source = "f(n) = n; a = env { b = 3; }; "
		sources(t, [2]string{source + "x = delay((" + s + "));", "(delay 3)"}, [2]string{source + "x = par(i, (" + s + "), _);", "(par (par wire wire) wire)"}, [2]string{source + "x = table([(" + s + "), 1]);", "(table 3 1)"}, [2]string{source + "x = case { (2) => !; (3) => _; }((" + s + "));", "wire"}, [2]string{source + `x = knob("k", (` + s + "), 0, (" + s + "), (" + s + "));", `(knob "k" 3 0 3 3)`}, [2]string{source + "x = up((" + s + "), _);", "(up 3 wire)"})
	}
	for _, s := range strings.Fields("_ ! delay(0) (1,2) (1,0:/) (3:delay(0)) up(1,3) (3:!) +(3) wave([3]) (_~_) show(\"a\")(3)") {
		refused(t, api.ErrNumber, "delay("+s+")", "par(i, "+s+", i)", "table([1, "+s+"])", `knob("k", 0, `+s+", 1, 0)", "down("+s+", _)")
		refused(t, api.ErrMatch, "case { (3) => 1; (0) => 2; }("+s+")")
	}
}
