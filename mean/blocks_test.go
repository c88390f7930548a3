package mean_test

import (
	"fmt"
	"slices"
	"strconv"
	"strings"
	"testing"

	"serinette/api"
	"serinette/block"
	"serinette/mean"
	"serinette/ratio"
)

// noNumber is a Q that is neither a number nor the one none, and so counts as none.
func noNumber() api.Q { return api.Q{N: 2, D: 2} }

func q(n, d int64) api.Q { return ratio.Make(n, d) }

func leaf(op string) api.Block { return api.Block{Op: op} }

func wire() api.Block { return leaf("wire") }

func num(q api.Q) api.Block { return api.Block{Op: "num", Nums: []api.Q{q}} }

func delay(n int) api.Block { return api.Block{Op: "delay", N: n} }

func two(op string, a, b api.Block) api.Block { return api.Block{Op: op, Kids: []api.Block{a, b}} }

func one(op string, a api.Block) api.Block { return api.Block{Op: op, Kids: []api.Block{a}} }

func turned(op string, n int, a api.Block) api.Block {
	return api.Block{Op: op, N: n, Kids: []api.Block{a}}
}

// balanced returns what an op makes of all, little deep.
func balanced(op string, l ...api.Block) api.Block {
	if len(l) == 1 {
		return l[0]
	}
	half := len(l) / 2
	return two(op, balanced(op, l[:half]...), balanced(op, l[half:]...))
}

// copies returns n of one block.
func copies(n int, b api.Block) []api.Block { return slices.Repeat([]api.Block{b}, n) }

// wires returns n wires side by side.
func wires(n int) api.Block { return balanced("par", copies(n, wire())...) }

// parse reads a diagram.
func parse(t *testing.T, text string) api.Block {
	t.Helper()
	b, err := block.Parse(text)
	if err != api.OK {
		t.Fatalf("Parse(%q): %v", text, err)
	}
	return b
}

// dump writes a diagram, as far as a test's message has place for it.
func dump(b api.Block) string {
	text, err := block.Text(b)
	if err != api.OK {
		text = fmt.Sprint(b)
	}
	return text[:min(len(text), 2000)]
}

// numbers reads numbers; `?` is a Q that is no number.
func numbers(t *testing.T, text string) []api.Q {
	t.Helper()
	var l []api.Q
	for _, word := range strings.Fields(text) {
		if word == "?" {
			l = append(l, noNumber())
			continue
		}
		n, err := ratio.Parse(word)
		if err != api.OK {
			t.Fatalf("%q is no number: %v", word, err)
		}
		l = append(l, n)
	}
	return l
}

// signals reads lists of numbers, parted by `|`; of nothing no lists.
func signals(t *testing.T, text string) [][]api.Q {
	t.Helper()
	if text == "" {
		return nil
	}
	var l [][]api.Q
	for _, part := range strings.Split(text, "|") {
		l = append(l, numbers(t, part))
	}
	return l
}

// textOf writes numbers.
func textOf(l []api.Q) string {
	var words []string
	for _, n := range l {
		words = append(words, textOfNumber(n))
	}
	return strings.Join(words, " ")
}

// textOfNumber writes a number; a result that is neither a number nor the one none is told as it is.
func textOfNumber(n api.Q) string {
	if !ratio.Valid(n) {
		return fmt.Sprint(n)
	}
	return ratio.Text(n)
}

// textOfSignals writes lists of numbers.
func textOfSignals(l [][]api.Q) string {
	var parts []string
	for _, part := range l {
		parts = append(parts, textOf(part))
	}
	return strings.Join(parts, " | ")
}

// events reads events: `2:a=1` sets a to 1 at sample 2.
func events(t *testing.T, text string) []api.Event {
	t.Helper()
	var l []api.Event
	for _, word := range strings.Fields(text) {
		at, rest, _ := strings.Cut(word, ":")
		path, value, _ := strings.Cut(rest, "=")
		n, err := strconv.Atoi(at)
		if err != nil {
			t.Fatalf("%q is no event: %v", word, err)
		}
		l = append(l, api.Event{At: n, Path: path, Value: numbers(t, value)[0]})
	}
	return l
}

// textOfTold writes what was told, as events are read.
func textOfTold(l []api.Told) string {
	var words []string
	for _, told := range l {
		words = append(words, fmt.Sprintf("%d:%s=%s", told.At, told.Path, textOfNumber(told.Value)))
	}
	return strings.Join(words, " ")
}

// tester is what is used of a testing.T.
type tester interface {
	Helper()
	Fatalf(format string, l ...any)
}

// play runs a diagram that is not refused.
func play(t tester, b api.Block, ins [][]api.Q, l []api.Event, n int) ([][]api.Q, []api.Told) {
	t.Helper()
	outs, told, err := mean.Play(b, ins, l, n)
	if err != api.OK {
		t.Fatalf("%s: Play: %v", dump(b), err)
	}
	return outs, told
}

// playText runs a diagram, and writes what comes out.
func playText(t tester, b api.Block, ins [][]api.Q, n int) string {
	t.Helper()
	outs, _ := play(t, b, ins, nil, n)
	return textOfSignals(outs)
}

// fresh returns a player of a diagram that is not refused.
func fresh(t tester, b api.Block) *mean.Player {
	t.Helper()
	p, err := mean.New(b)
	if err != api.OK {
		t.Fatalf("%s: New: %v", dump(b), err)
	}
	return p
}

// step runs a sample.
func step(t tester, p *mean.Player, ins ...api.Q) []api.Q {
	t.Helper()
	outs, err := p.Step(ins)
	if err != api.OK {
		t.Fatalf("Step(%s): %v", textOf(ins), err)
	}
	return outs
}

// runs tries diagrams: a diagram, what comes in, and what comes out, for as many samples as are told of the first out.
func runs(t *testing.T, rows [][3]string) {
	t.Helper()
	for _, row := range rows {
		b, ins, want := parse(t, row[0]), signals(t, row[1]), signals(t, row[2])
		n := 0
		if len(want) > 0 {
			n = len(want[0])
		}
		outs, _, err := mean.Play(b, ins, nil, n)
		if got := textOfSignals(outs); got != textOfSignals(want) || err != api.OK {
			t.Errorf("%s of %s: got %s, %v, want %s", row[0], row[1], got, err, textOfSignals(want))
		}
	}
}
