package mean_test

import (
	"slices"
	"strings"
	"testing"

	"serinette/api"
	"serinette/mean"
	"serinette/ratio"
)

// The chapter's examples.
func TestExamples(t *testing.T) {
	runs(t, [][3]string{
		{"(rec add (delay 1))", "1 1 1", "1 2 3"},
		{"(up 2 (rec add (delay 1)))", "1 1", "2 4"},
		{"(down 2 (rec add (delay 1)))", "1 5 7 9", "1 1 8 8"},
		{"(gate (rec add (delay 1)))", "0 1 0 1 | 1 2 3 4", "0 2 2 6"},
		{"(store 0 0)", "0 0 | 5 6 | 0 0", "0 5"},
		{"(seq (par (num 1) (num 0)) div)", "", "none none none"},
	})
}

// P8.1: wires, cuts and numbers.
func TestWires(t *testing.T) {
	runs(t, [][3]string{
		{"wire", "1 none ? -2/3 1073741824", "1 none none -2/3 1073741824"},
		{"cut", "1 2", ""}, {"(par cut wire)", "1 2 | 3 4", "3 4"}, {"(par wire cut)", "1 2 | 3 4", "1 2"},
		{"(num 1/2)", "", "1/2 1/2 1/2"}, {"(num none)", "", "none none"}, {"(num 0)", "", "0 0"},
	})
}

// P8.1: each op with one in, with none and a Q that is no number, too.
func TestOpsOfOne(t *testing.T) {
	runs(t, [][3]string{
		{"neg", "1/2 -3 0 none ?", "-1/2 3 0 none none"},
		{"abs", "-1/2 3 0 none ?", "1/2 3 0 none none"},
		{"floor", "-1/2 7/2 3 none ?", "-1 3 3 none none"},
		{"round", "5/2 -3/2 7/3 none ?", "2 -2 2 none none"},
		{"frac", "-1/4 9/4 2 none ?", "3/4 1/4 0 none none"},
		{"not", "0 1 -1/2 none ?", "1 0 0 none none"},
	})
}

// P8.1: each op with two ins, with none and a Q that is no number at each of them, too.
func TestOpsOfTwo(t *testing.T) {
	for _, row := range [][4]string{
		{"add", "1/3 1073741824 1", "1/6 1 -1", "1/2 none 0"}, {"sub", "1/2 1 -1073741824", "1/3 3 1", "1/6 -2 none"},
		{"mul", "2/3 65536 0", "3/4 32768 5", "1/2 none 0"}, {"div", "2/3 1 0", "4 0 3", "1/6 none 0"}, {"mod", "-7 7 1", "3 -3 0", "2 -2 none"},
		{"min", "2 -3 1/2", "-3 2 1/3", "-3 -3 1/3"}, {"max", "2 -3 1/2", "-3 2 1/3", "2 2 1/2"},
		{"lt", "1 2 3", "2 2 2", "1 0 0"}, {"le", "1 2 3", "2 2 2", "1 1 0"}, {"eq", "1 2 3", "2 2 2", "0 1 0"}, {"ne", "1 2 3", "2 2 2", "1 0 1"},
		{"and", "6 -1 1/2", "3 6 1", "2 6 none"}, {"or", "6 -8 1", "3 3 1/2", "7 -5 none"}, {"xor", "6 -1 1/2", "3 6 1", "5 -7 none"},
		{"shl", "3 1 1", "2 -1 31", "12 none none"}, {"shr", "13 -1 1", "2 5 63", "3 -1 none"},
	} {
		ins := row[1] + " none ? 1 1 none|" + row[2] + " 1 1 none ? none"
		runs(t, [][3]string{{row[0], ins, row[3] + " none none none none none"}})
	}
}

// P8.1: all ops of pairs of many numbers, as the chapter's words say.
func TestOpsByWords(t *testing.T) {
	values := numbers(t, "none ? 0 1 -1 2 -2 3 1/2 -1/2 3/2 -5/3 7 30 31 62 63 -63 1/1073741824 1073741824 -1073741824 1073741823 536870912 65537/3")
	values = append(values, api.Q{N: 1}, api.Q{N: 1, D: -1}, api.Q{N: api.MaxNum + 1, D: 1})
	var firsts, seconds []api.Q
	for _, a := range values {
		for _, b := range values {
			firsts, seconds = append(firsts, a), append(seconds, b)
		}
	}
	for i, op := range strings.Fields("neg abs floor round frac not add sub mul div mod min max lt le eq ne and or xor shl shr") {
		ins := [][]api.Q{firsts, seconds}
		if i < 6 {
			ins = ins[:1]
		}
		outs, _ := playByWords(leaf(op), ins, nil, len(firsts))
		if got, want := playText(t, leaf(op), ins, len(firsts)), textOfSignals(outs); got != want {
			t.Errorf("%s of %s: got %s, want %s", op, textOfSignals(ins), got, want)
		}
	}
}

// P8.1: pick, with none, 0 and other numbers ahead; what is not picked may be none.
func TestPick(t *testing.T) {
	runs(t, [][3]string{
		{"pick", "0 1 -1/2 none ? 0 0 1 1 0 0 1 1 | 5 5 5 5 5 none ? none ? 5 5 5 5 | 6 6 6 6 6 6 6 6 6 none ? none ?", "5 6 6 none none none none 6 6 5 5 none none"},
		{"(split wire pick)", "0 5 none", "0 5 none"},
	})
}

// P8.1: fit, with each Over.
func TestFit(t *testing.T) {
	runs(t, [][3]string{
		{"(fit fix(1,2,near,sat))", "1/8 3/8 5 -5 7/4 none ?", "0 1/2 7/4 -2 7/4 none none"},
		{"(fit fix(1,2,near,wrap))", "5/2 1/8 -5/2 1073741824 none ?", "-3/2 0 3/2 0 none none"},
		{"(fit fix(1,2,near,none))", "5 -5 3/8 none ?", "none none 1/2 none none"},
		{"(fit fix(1,2,floor,sat))", "3/8 -1/8 none", "1/4 -1/4 none"}, {"(fit fix(1,2,zero,sat))", "3/8 -1/8 none", "1/4 0 none"},
		{"(fit float(2,1,near,sat))", "5 7 -7 0 none ?", "4 6 -6 0 none none"}, {"(fit float(2,1,near,none))", "5 7 -7 none ?", "4 none none none none"},
	})
}

// P8.1: delay, also ahead of sample N.
func TestDelay(t *testing.T) {
	runs(t, [][3]string{
		{"(delay 0)", "1 none ? 4", "1 none none 4"}, {"(delay 1)", "1 none ? 4 5", "0 1 none none 4"}, {"(delay 2)", "1 2 3 4 5 6 7", "0 0 1 2 3 4 5"}, {"(delay 3)", "1 2 3 4 5 6 7 8", "0 0 0 1 2 3 4 5"}, {"(delay 3)", "none 1", "0 0 0 none 1 0 0"},
	})
	for _, n := range []int{4094, 4095, 4096} {
		want := append(slices.Repeat([]api.Q{q(0, 1)}, n), numbers(t, "7 8")...)[:api.MaxTime]
		if got := playText(t, delay(n), [][]api.Q{numbers(t, "7 8")}, api.MaxTime); got != textOf(want) {
			t.Errorf("delay %d: got %.80s .. %s", n, got, got[len(got)-80:])
		}
	}
}

// P8.1: vary, whose second in is brought into its range, also when it is a fraction or none.
func TestVary(t *testing.T) {
	runs(t, [][3]string{
		{"(vary 0 0)", "1 2 3 none ? 6 7 8 | 0 5 -5 7 0 none ? 1/2", "1 2 3 none none none none 8"},
		{"(vary 0 3)", "1 2 3 4 5 6 | 0 1 2 3 4 -1", "1 1 1 1 2 6"}, {"(vary 0 3)", "1 2 3 4 5 | 3 3 3 1 1073741824", "0 0 0 3 2"}, {"(vary 0 3)", "1 2 3 4 5 6 | 3/2 5/2 3/2 7/3 -1/2 7/2", "0 0 2 2 5 3"}, {"(vary 0 3)", "1 2 3 4 5 | 1 none ? 1 3", "0 none none 3 2"}, {"(vary 0 3)", "none 2 ? 4 5 | 0 1 1 1 2", "none none 2 none none"}, {"(vary 0 3)", "1 2 | -1073741824 -1/1073741824", "1 2"},
		{"(vary 1 3)", "1 2 3 4 5 | 0 -7 1 1/2 2", "0 1 2 3 3"}, {"(vary 1 3)", "1 2 3 4 5 | 3 3 3 3 9", "0 0 0 1 2"}, {"(vary 2 2)", "1 2 3 4 5 | 0 9 2 5/2 none", "0 0 1 2 none"}, {"(vary 0 1)", "1 2 3 4 | 1 0 1 0", "0 2 2 4"},
		{"(vary 4096 4096)", "1 2 | 0 0", "0 0"},
	})
}

// P8.1: table, with places below 0, beyond the last, fractions and none.
func TestTable(t *testing.T) {
	runs(t, [][3]string{
		{"(table 5 6 7)", "0 1 2 3 100 -1 -1/2 1/2 5/2 3/2 1073741824 -1073741824 none ?", "5 6 7 7 7 5 5 5 7 6 7 5 none none"},
		{"(table none 1/2)", "0 1 0 none", "none 1/2 none none"}, {"(table 9)", "-5 0 5 none", "9 9 9 none"},
	})
}

// P8.1: wave goes round and round.
func TestWave(t *testing.T) {
	runs(t, [][3]string{{"(wave 1 2 3)", "", "1 2 3 1 2 3 1 2"}, {"(wave 7)", "", "7 7 7"}, {"(wave none 1/2)", "", "none 1/2 none 1/2"}})
}

// P8.1: store is read ahead of being written, at places that are brought into its range; it is written only at its places.
func TestStore(t *testing.T) {
	runs(t, [][3]string{
		{"(store 1 2 3)", "none none none none none none none none none none | 9 9 9 9 9 9 9 9 9 9 | 0 1 2 3 -1 1/2 5/2 -1/2 none ?", "1 2 3 3 1 1 3 1 none none"},
		{"(store 1 2 3)", "-1 3 -1/2 100 none ? | 9 9 9 9 9 9 | 0 1 2 0 1 2", "1 2 3 1 2 3"},
		{"(store 1 2 3)", "5/2 1/2 none none none | 9 8 7 7 7 | 2 2 0 1 2", "3 9 8 2 9"},
		{"(store 1 2 3)", "0 0 0 none | 4 5 6 7 | 0 0 0 0", "1 4 5 6"},
		{"(store 1)", "0 0 0 none | none ? 5 6 | 0 0 0 0", "1 none none 5"},
		{"(store none 2)", "1 none none | 9 9 9 | none 0 1", "none none 9"},
	})
}

// P8.1: a show gives what comes in.
func TestShowsGive(t *testing.T) {
	runs(t, [][3]string{{`(show "a")`, "1 none ? 1/2", "1 none none 1/2"}, {`(seq (show "a") (seq neg (show "b")))`, "1 2", "-1 -2"}})
}

// P8.1: what counts as none is none, wherever it goes.
func TestResultsAreClean(t *testing.T) {
	for _, odd := range []api.Q{{N: 2, D: 2}, {N: 1}, {D: 2}, {N: 1, D: -1}, {N: api.MaxNum + 1, D: 1}, {N: 1, D: api.MaxNum + 1}} {
		for _, text := range []string{"wire", "(delay 1)", "(vary 0 2)", "(store 0)", "pick", `(show "a")`, "(up 2 (delay 1))", "(down 2 wire)", "(gate wire)", "(reset (delay 1))", "(rec (par wire wire) (delay 1))", "(merge (par wire wire) wire)", "(store 1 2)", "(table 1 2)"} {
			p := fresh(t, parse(t, text))
			for _, other := range []api.Q{q(0, 1), q(1, 1), odd} {
				for range 3 {
					for _, got := range step(t, p, ofPorts(t, p, odd, other)...) {
						if !ratio.Valid(got) {
							t.Errorf("%s with %v and %v: got %v", text, odd, other, got)
						}
					}
				}
			}
			for _, cell := range p.Cells() {
				for _, got := range cell.Vals {
					if !ratio.Valid(got) {
						t.Errorf("%s with %v: keeps %v", text, odd, cell)
					}
				}
			}
			if got, err := p.Told("a"); !ratio.Valid(got) {
				t.Errorf("%s with %v: told %v, %v", text, odd, got, err)
			}
		}
	}
}

// ofPorts returns as many ins as a player takes: one number, and then another.
func ofPorts(t *testing.T, p *mean.Player, first, others api.Q) []api.Q {
	t.Helper()
	for n := range 4 {
		l := make([]api.Q, n+1)
		for i := range l {
			l[i] = others
		}
		l[0] = first
		if _, err := p.Copy().Step(l); err == api.OK {
			return l
		}
	}
	t.Fatal("no number of ins is taken")
	return nil
}
