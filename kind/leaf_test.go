package kind_test

import (
	"fmt"
	"strings"
	"testing"

	"serinette/api"
	"serinette/quant"
	"serinette/ratio"
	"serinette/span"
)

// P9.1: what goes through as it is, what goes nowhere, and numbers.
func TestPlainLeaves(t *testing.T) {
	tells(t, [][3]string{
		{"wire", "[0,1]/2 const", "[0,1]/2 const"}, {"wire", "[*,5]/0 none control", "[*,5]/0 none control"}, {"wire", "[] sample", "[] sample"}, {"wire", "[] none const", "[] none const"},
		{`(show "a")`, "[0,1]/2 const", "[0,1]/2 const"}, {`(show "a")`, "[*,5]/0 none control", "[*,5]/0 none control"}, {`(show "a")`, "[] sample", "[] sample"},
		{"cut", "[0,1]/2 const", ""}, {"(par cut (par wire cut))", "[0,1]/2 none const | [2,3]/1 control | [] sample", "[2,3]/1 control"},
		{"(num 3/4)", "", "[3/4,3/4]/4 const"}, {"(num 0)", "", "[0,0]/1 const"}, {"(num -1073741824)", "", "[-M,-M]/1 const"}, {"(num none)", "", "[] none const"},
		{"(fit fix(1,2,near,sat))", "[1/8,3/8]/8 const", "[0,1/2]/4 const"}, {"(fit fix(1,2,near,none))", "[0,5]/1 control", "[0,7/4]/4 none control"}, {"(fit fix(1,2,near,wrap))", "[*,*]/0 none sample", "[-2,7/4]/4 none sample"}, {"(fit float(2,1,near,sat))", "[0,5]/1 none control", "[0,4]/2 none control"}, {"(fit fix(1,2,near,sat))", "[] none control", "[] none control"},
	})
}

// P9.1: the ops from neg to pick are as span.Op tells, with the greatest rate of their ins.
func TestOps(t *testing.T) {
	tells(t, [][3]string{
		{"neg", "[0,1]/2 const", "[-1,0]/2 const"}, {"abs", "[-3,2]/1 control", "[0,3]/1 control"}, {"floor", "[1/2,5/2]/2 sample", "[0,2]/1 sample"}, {"round", "[1/2,5/2]/2 const", "[0,2]/1 const"}, {"frac", "[0,9]/4 none const", "[0,1]/4 none const"}, {"not", "[0,0]/1 control", "[1,1]/1 control"},
		{"add", "[0,1]/2 const | [0,1]/3 const", "[0,2]/6 const"}, {"sub", "[0,1]/1 const | [0,1]/1 control", "[-1,1]/1 control"}, {"mul", "[0,M]/1 control | [0,2]/1 const", "[0,*]/1 none control"}, {"div", "[0,1]/1 sample | [4,4]/1 const", "[0,1/4]/4 sample"}, {"div", "[1,1]/1 const | [0,1]/1 const", "[*,*]/0 none const"}, {"mod", "[-9,9]/2 const | [1,3]/1 sample", "[0,3]/2 sample"}, {"min", "[0,*]/1 control | [-1,5]/2 sample", "[-1,5]/2 sample"}, {"max", "[0,2]/1 control | [-1,5]/2 control", "[0,5]/2 control"},
		{"lt", "[0,1]/1 control | [2,3]/1 control", "[1,1]/1 control"}, {"le", "[3,4]/1 const | [2,3]/1 const", "[0,1]/1 const"}, {"eq", "[2,2]/1 const | [2,2]/1 const", "[1,1]/1 const"}, {"ne", "[2,2]/1 none const | [2,2]/1 const", "[0,0]/1 none const"},
		{"and", "[0,6]/1 const | [1,9]/1 const", "[0,6]/1 const"}, {"or", "[0,6]/1 const | [1,9]/1 const", "[0,15]/1 const"}, {"xor", "[0,6]/1 const | [1,9]/2 sample", "[*,*]/0 none sample"}, {"shl", "[1,1]/1 const | [1,1]/1 const", "[*,*]/0 none const"}, {"shr", "[1,1]/1 control | [1,1]/1 const", "[*,*]/0 none control"},
		{"pick", "[0,0]/1 const | [1,2]/1 const | [3,4]/2 const", "[1,2]/1 const"}, {"pick", "[1,2]/1 const | [] none const | [3,4]/2 control", "[3,4]/2 control"}, {"pick", "[0,1]/1 const | [1,2]/1 sample | [3,4]/2 const", "[1,4]/2 sample"}, {"pick", "[] const | [1,2]/1 const | [3,4]/2 none const", "[] const"},
		{"add", "[] const | [0,1]/3 control", "[] control"}, {"add", "[] none sample | [0,1]/3 control", "[] none sample"},
	})
	c := &chance{state: 1}
	for _, op := range strings.Fields("neg abs floor round frac not add sub mul div mod min max lt le eq ne and or xor shl shr pick") {
		b := leaf(op)
		for range 300 {
			ins := c.kinds(portsOf(b))
			var spans []api.Span
			for _, k := range ins {
				spans = append(spans, k.Span)
			}
			s, _ := span.Op(op, spans)
			want := textOf([]api.Kind{{Span: s, Rate: greatest(ins)}})
			if got := textOf(tell(t, b, ins)); got != want {
				t.Fatalf("%s of %s: got %s, want %s", op, textOf(ins), got, want)
			}
		}
	}
}

// greatest returns the greatest rate, by the chapter's order.
func greatest(l []api.Kind) string {
	order := []string{"const", "control", "sample"}
	n := 0
	for _, k := range l {
		for i, rate := range order {
			if k.Rate == rate {
				n = max(n, i)
			}
		}
	}
	return order[n]
}

// P9.1: a delay has 0 ahead of the first, and changes at each sample; but not one of 0 samples.
func TestDelays(t *testing.T) {
	tells(t, [][3]string{
		{"(delay 0)", "[2,3]/2 const", "[2,3]/2 const"}, {"(delay 0)", "[] none control", "[] none control"},
		{"(delay 1)", "[2,3]/2 const", "[0,3]/2 sample"}, {"(delay 4096)", "[-3,-2]/2 none control", "[-3,0]/2 none sample"}, {"(delay 1)", "[2,*]/0 sample", "[0,*]/0 sample"}, {"(delay 2)", "[] const", "[0,0]/1 sample"}, {"(delay 2)", "[] none const", "[0,0]/1 none sample"}, {"(delay 1)", "[1/2,1/2]/2 const", "[0,1/2]/2 sample"},
		{"(vary 0 0)", "[2,3]/2 const | [0,9]/1 const", "[2,3]/2 const"}, {"(vary 0 0)", "[2,3]/2 const | [0,9]/1 control", "[2,3]/2 control"}, {"(vary 0 0)", "[2,3]/2 sample | [0,9]/1 const", "[2,3]/2 sample"}, {"(vary 0 0)", "[2,3]/2 const | [0,9]/1 none const", "[2,3]/2 none const"}, {"(vary 0 0)", "[] const | [0,9]/1 none const", "[] none const"},
		{"(vary 0 1)", "[2,3]/2 const | [0,0]/1 const", "[0,3]/2 sample"}, {"(vary 3 3)", "[2,3]/2 control | [0,9]/0 none const", "[0,3]/2 none sample"}, {"(vary 1 4096)", "[-3,-2]/2 none const | [0,9]/1 control", "[-3,0]/2 none sample"}, {"(vary 0 1)", "[] none const | [0,9]/1 const", "[0,0]/1 none sample"},
		// Nothing, or none alone, in the second in.
		{"(vary 0 0)", "[2,3]/2 const | [] control", "[] control"}, {"(vary 0 0)", "[2,3]/2 none sample | [] const", "[] sample"}, {"(vary 0 0)", "[2,3]/2 const | [] none const", "[] none const"},
		{"(vary 0 1)", "[2,3]/2 none const | [] const", "[] sample"}, {"(vary 2 5)", "[2,3]/2 const | [] none const", "[] none sample"}, {"(vary 1 1)", "[] none const | [] const", "[] sample"},
	})
}

// P9.1: tables, waves and stores have their numbers, and what goes in or out with them.
func TestNumbersOfLeaves(t *testing.T) {
	tells(t, [][3]string{
		{"(table 5)", "[0,1]/1 const", "[5,5]/1 const"}, {"(table 1/2 -1/3 1/4)", "[*,*]/0 control", "[-1/3,1/2]/12 control"}, {"(table 1 2)", "[0,1]/1 none sample", "[1,2]/1 none sample"}, {"(table 1 none 2)", "[0,1]/1 const", "[1,2]/1 none const"}, {"(table none)", "[0,1]/1 const", "[] none const"},
		{"(table 1 2)", "[] control", "[] control"}, {"(table 1 2)", "[] none const", "[] none const"}, {"(table 1 none)", "[] const", "[] const"}, {"(table 1/32768 1/32769)", "[0,1]/1 const", "[1/32769,1/32768]/0 const"},
		{"(wave 5)", "", "[5,5]/1 const"}, {"(wave none)", "", "[] none const"}, {"(wave 5 5)", "", "[5,5]/1 sample"}, {"(wave 1/2 3 -1/3)", "", "[-1/3,3]/6 sample"}, {"(wave 1/2 none)", "", "[1/2,1/2]/2 none sample"},
		{"(store 5)", "[0,0]/1 const | [7,8]/1 const | [0,0]/1 const", "[5,8]/1 sample"}, {"(store 1/2 1/3)", "[] none const | [] const | [0,1]/1 const", "[1/3,1/2]/6 sample"}, {"(store 5)", "[0,0]/1 const | [] none const | [0,0]/1 const", "[5,5]/1 none sample"}, {"(store none 1)", "[0,0]/1 const | [1,2]/2 const | [0,0]/1 const", "[1,2]/2 none sample"}, {"(store none)", "[0,0]/1 const | [] const | [0,0]/1 const", "[] none sample"}, {"(store 5)", "[0,0]/1 none const | [5,5]/1 const | [0,0]/1 const", "[5,5]/1 sample"}, {"(store 5)", "[0,0]/1 const | [5,5]/1 const | [*,*]/0 none const", "[5,5]/1 none sample"},
		{"(store 5)", "[0,0]/1 const | [7,8]/1 none const | [] const", "[] sample"}, {"(store 5)", "[0,0]/1 const | [7,8]/1 const | [] none const", "[] none sample"}, {"(store none)", "[0,0]/1 none const | [7,8]/1 const | [] control", "[] sample"},
	})
}

// P9.1: a control has the numbers between its ends, on its steps and where it begins.
func TestKnobs(t *testing.T) {
	tells(t, [][3]string{
		{`(knob "k" 1 0 2 0)`, "", "[0,2]/0 control"}, {`(knob "k" 0 0 10 1)`, "", "[0,10]/1 control"}, {`(knob "k" 1 1 1 0)`, "", "[1,1]/0 control"}, {`(knob "k" 1 1 1 1)`, "", "[1,1]/1 control"},
		{`(knob "k" 1/2 0 2 1)`, "", "[0,2]/2 control"}, {`(knob "k" 1 1/3 2 1)`, "", "[1/3,2]/3 control"}, {`(knob "k" 1 0 2 1/5)`, "", "[0,2]/5 control"}, {`(knob "k" 1/2 1/3 2 1/5)`, "", "[1/3,2]/30 control"}, {`(knob "k" 1/4 -1/6 5/7 1/10)`, "", "[-1/6,5/7]/60 control"},
		{`(knob "k" 1/32769 0 1 1/32768)`, "", "[0,1]/0 control"}, {`(knob "k" 1/32767 0 1 1/32768)`, "", "[0,1]/1073709056 control"}, {`(knob "k" 1/1073741824 0 1 1/2)`, "", "[0,1]/M control"},
	})
}

// P9.1: a format's spans are as span.Fit tells.
func TestFormats(t *testing.T) {
	c := &chance{state: 2}
	for _, kind := range []string{"fix", "float"} {
		for _, round := range []string{"floor", "near", "zero"} {
			for _, over := range []string{"sat", "wrap", "none"} {
				f := api.Format{Kind: kind, I: 2, F: 1, Round: round, Over: over}
				if !quant.Valid(f) {
					continue
				}
				for range 50 {
					ins := c.kinds(1)
					want := textOf([]api.Kind{{Span: span.Fit(f, ins[0].Span), Rate: ins[0].Rate}})
					if got := textOf(tell(t, api.Block{Op: "fit", Format: f}, ins)); got != want {
						t.Fatalf("%s of %s: got %s, want %s", quant.Text(f), textOf(ins), got, want)
					}
				}
			}
		}
	}
}

// P9.1: the span of many numbers does not hang on their order, and has a Den that all divide.
func TestManyNumbers(t *testing.T) {
	var up, down []string
	for i := range api.MaxTable {
		n := ratio.Text(q(int64(i)-100, int64(1+i%10)))
		up = append(up, n)
		down = append([]string{n}, down...)
	}
	for _, op := range []string{"table", "wave", "store"} {
		for _, nums := range [][]string{up, down} {
			b := parse("(" + op + " " + strings.Join(nums, " ") + ")")
			ins := kinds("[0,0]/1 const | [1,1]/1 const | [0,0]/1 const")[:portsOf(b)]
			if got := textOf(tell(t, b, ins)); !strings.HasPrefix(got, fmt.Sprint("[-100,150]/2520 ")) {
				t.Errorf("%s of many numbers: %s", op, got)
			}
		}
	}
}
