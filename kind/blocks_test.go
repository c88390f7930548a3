package kind_test

import (
	"fmt"
	"slices"
	"strings"
	"testing"

	"serinette/api"
	"serinette/block"
	"serinette/kind"
	"serinette/ratio"
	"serinette/span"
)

func q(n, d int64) api.Q { return ratio.Make(n, d) }

func leaf(op string) api.Block { return api.Block{Op: op} }

func delay(n int) api.Block { return api.Block{Op: "delay", N: n} }

func two(op string, a, b api.Block) api.Block { return api.Block{Op: op, Kids: []api.Block{a, b}} }

func one(op string, n int, a api.Block) api.Block {
	return api.Block{Op: op, N: n, Kids: []api.Block{a}}
}

// row returns all side by side, little deep.
func row(l ...api.Block) api.Block {
	if len(l) == 1 {
		return l[0]
	}
	return two("par", row(l[:len(l)/2]...), row(l[len(l)/2:]...))
}

// many returns n of one block side by side.
func many(n int, b api.Block) api.Block { return row(slices.Repeat([]api.Block{b}, n)...) }

// parse reads a diagram.
func parse(text string) api.Block {
	b, err := block.Parse(text)
	if err != api.OK {
		panic("no diagram in a test: " + text)
	}
	return b
}

// dump writes a diagram, as far as a test's message has place for it.
func dump(b api.Block) string {
	text, err := block.Text(b)
	if err != api.OK {
		text = fmt.Sprint(b)
	}
	return text[:min(len(text), 2000)]
}

// number reads a number; a star is an open end, and M stands for MaxNum.
func number(text string) api.Q {
	if text == "*" {
		return api.Q{}
	}
	n, err := ratio.Parse(strings.ReplaceAll(text, "M", fmt.Sprint(api.MaxNum)))
	if err != api.OK {
		panic("no number in a test: " + text)
	}
	return n
}

// spanOf reads a span as its Text is.
func spanOf(text string) api.Span {
	text, isNone := strings.CutSuffix(text, " none")
	if text == "[]" {
		return api.Span{Empty: true, None: isNone}
	}
	ends, den, _ := strings.Cut(strings.TrimPrefix(text, "["), "]/")
	lo, hi, _ := strings.Cut(ends, ",")
	return api.Span{Lo: number(lo), Hi: number(hi), Den: number(den).N, None: isNone}
}

// kinds reads kinds, each a span and a rate, parted by `|`; of nothing none.
func kinds(text string) []api.Kind {
	if text == "" {
		return nil
	}
	var l []api.Kind
	for _, part := range strings.Split(text, "|") {
		part = strings.TrimSpace(part)
		i := strings.LastIndex(part, " ")
		l = append(l, api.Kind{Span: spanOf(part[:i]), Rate: part[i+1:]})
	}
	return l
}

// textOf writes kinds as they are read; M does not stand for MaxNum.
func textOf(l []api.Kind) string {
	var parts []string
	for _, k := range l {
		text := span.Text(k.Span)
		if !span.Valid(k.Span) {
			text = fmt.Sprint(k.Span)
		}
		parts = append(parts, text+" "+k.Rate)
	}
	return strings.Join(parts, " | ")
}

// textOfPlaces writes places.
func textOfPlaces(l [][]int) string {
	var parts []string
	for _, place := range l {
		parts = append(parts, fmt.Sprint(append([]int{}, place...)))
	}
	return strings.Join(parts, " ")
}

// tester is what is used of a testing.T.
type tester interface {
	Helper()
	Fatalf(format string, l ...any)
}

// tell tells of a diagram that is not refused.
func tell(t tester, b api.Block, ins []api.Kind) []api.Kind {
	t.Helper()
	outs, err := kind.Tell(b, ins)
	if err != api.OK {
		t.Fatalf("%s of %s: Tell: %v", dump(b), textOf(ins), err)
	}
	return outs
}

// whence tells where none may come from in a diagram that is not refused.
func whence(t tester, b api.Block, ins []api.Kind) [][]int {
	t.Helper()
	places, err := kind.Whence(b, ins)
	if err != api.OK {
		t.Fatalf("%s of %s: Whence: %v", dump(b), textOf(ins), err)
	}
	return places
}

// tells tries what is told: a diagram, its ins, and its outs.
func tells(t *testing.T, rows [][3]string) {
	t.Helper()
	for _, row := range rows {
		want := textOf(kinds(row[2]))
		if got := textOf(tell(t, parse(row[0]), kinds(row[1]))); got != want {
			t.Errorf("%s of %s: got %s, want %s", row[0], row[1], got, want)
		}
	}
}

// comes tries where none may come from: a diagram, its ins, and places.
func comes(t *testing.T, rows [][3]string) {
	t.Helper()
	for _, row := range rows {
		if got := textOfPlaces(whence(t, parse(row[0]), kinds(row[1]))); got != row[2] {
			t.Errorf("%s of %s: got %s, want %s", row[0], row[1], got, row[2])
		}
	}
}
