package cause_test

import (
	"fmt"
	"slices"
	"testing"

	"serinette/api"
	"serinette/block"
	"serinette/cause"
)

func leaf(op string) api.Block { return api.Block{Op: op} }

func wire() api.Block { return leaf("wire") }

func cut() api.Block { return leaf("cut") }

func num() api.Block { return api.Block{Op: "num", Nums: []api.Q{{N: 1, D: 1}}} }

func delay(n int) api.Block { return api.Block{Op: "delay", N: n} }

func show(path string) api.Block { return api.Block{Op: "show", Name: path} }

func two(op string, a, b api.Block) api.Block { return api.Block{Op: op, Kids: []api.Block{a, b}} }

func one(op string, a api.Block) api.Block { return api.Block{Op: op, Kids: []api.Block{a}} }

func turned(op string, n int, a api.Block) api.Block {
	return api.Block{Op: op, N: n, Kids: []api.Block{a}}
}

// balanced returns what an op makes of all, little deep.
func balanced(op string, l ...api.Block) api.Block {
	if len(l) == 1 {
		return l[0]
	}
	half := len(l) / 2
	return two(op, balanced(op, l[:half]...), balanced(op, l[half:]...))
}

// copies returns n of one block.
func copies(n int, b api.Block) []api.Block { return slices.Repeat([]api.Block{b}, n) }

// wires returns n wires side by side.
func wires(n int) api.Block { return balanced("par", copies(n, wire())...) }

// mix returns a block with a way of each delay: a row for each out, in it a delay for each in, -1 for no way; at least one of each.
func mix(rows ...[]int) api.Block {
	ins := len(rows[0])
	var outs []api.Block
	for _, row := range rows {
		var l []api.Block
		ways := 0
		for _, n := range row {
			if n < 0 {
				l = append(l, cut())
				continue
			}
			ways++
			l = append(l, delay(n))
		}
		if ways == 0 {
			outs = append(outs, balanced("par", append(l, num())...))
			continue
		}
		outs = append(outs, two("merge", balanced("par", l...), wire()))
	}
	return two("split", wires(ins), balanced("par", outs...))
}

// slow returns b that runs at each 8th sample, and so on, so many times.
func slow(times int, b api.Block) api.Block {
	for range times {
		b = turned("down", 8, b)
	}
	return b
}

// lasting returns a block with this delay, which may be longer than that of one op.
func lasting(n int) api.Block {
	if n <= api.MaxDelay {
		return delay(n)
	}
	return two("seq", turned("down", 8, lasting(n/8)), delay(n%8))
}

// nested returns b with so many blocks around it that change nothing.
func nested(n int, b api.Block) api.Block {
	for range n {
		b = turned("up", 1, b)
	}
	return b
}

// pointer returns the block at a place that is there.
func pointer(b *api.Block, place []int) *api.Block {
	for _, k := range place {
		b = &b.Kids[k]
	}
	return b
}

// places returns the places of all blocks of b with an op, kids ahead of the whole, from the left.
func places(op string, b api.Block) [][]int {
	var l [][]int
	for k, kid := range b.Kids {
		for _, place := range places(op, kid) {
			l = append(l, append([]int{k}, place...))
		}
	}
	if b.Op == op {
		l = append(l, nil)
	}
	return l
}

// copied returns a block that shares no memory with b.
func copied(b api.Block) api.Block {
	b.Nums = slices.Clone(b.Nums)
	b.Kids = slices.Clone(b.Kids)
	for i, kid := range b.Kids {
		b.Kids[i] = copied(kid)
	}
	return b
}

// same tells whether a and b are the same in all fields.
func same(a, b api.Block) bool {
	return a.Op == b.Op && a.Name == b.Name && a.N == b.N && a.M == b.M && a.Format == b.Format && slices.Equal(a.Nums, b.Nums) && slices.EqualFunc(a.Kids, b.Kids, same)
}

// parse reads a diagram.
func parse(t *testing.T, text string) api.Block {
	t.Helper()
	b, err := block.Parse(text)
	if err != api.OK {
		t.Fatalf("Parse(%q): %v", text, err)
	}
	return b
}

// dump writes a diagram, as far as a test's message has place for it.
func dump(b api.Block) string {
	text, err := block.Text(b)
	if err != api.OK {
		text = fmt.Sprint(b)
	}
	return text[:min(len(text), 2000)]
}

// refused is what is told of a diagram that has an error.
func refused(err api.Errno) string { return fmt.Sprint("error ", int(err)) }

// looped is what is told of a diagram that has a loop without a delay.
func looped(at, outs []int) string { return fmt.Sprint("around ", at, " ", outs) }

// traced is what is told of all others.
func traced(least [][]int, loops []int) string { return fmt.Sprint(least, " ", loops) }

// tester is what is used of a testing.T.
type tester interface {
	Helper()
	Fatalf(format string, l ...any)
}

// tell tells what the four functions tell of b, which must be in keeping.
func tell(t tester, b api.Block) string {
	t.Helper()
	way, is, err := cause.Around(b)
	least, errLeast := cause.Least(b)
	hangs, errHangs := cause.Depends(b)
	loops, errLoops := cause.Loops(b)
	want := err
	if is {
		want = api.ErrLoop
	}
	if errLeast != want || errHangs != want || errLoops != want {
		t.Fatalf("%s: Around: %v, %v, Least, Depends, Loops: %v, %v, %v", dump(b), is, err, errLeast, errHangs, errLoops)
	}
	if want != api.OK && len(least)+len(hangs)+len(loops) > 0 {
		t.Fatalf("%s: results with an error: %v, %v, %v", dump(b), least, hangs, loops)
	}
	if !is && len(way.At)+len(way.Outs) > 0 || is && err != api.OK {
		t.Fatalf("%s: Around: %v, %v, %v", dump(b), way, is, err)
	}
	if !isOfLeast(hangs, least) {
		t.Fatalf("%s: Depends: %v, Least: %v", dump(b), hangs, least)
	}
	switch {
	case is:
		return looped(way.At, way.Outs)
	case err != api.OK:
		return refused(err)
	}
	return traced(least, loops)
}

// isOfLeast tells whether outs hang on ins where the least delay is 0.
func isOfLeast(hangs [][]bool, least [][]int) bool {
	return slices.EqualFunc(hangs, least, func(a []bool, b []int) bool {
		return slices.EqualFunc(a, b, func(a bool, b int) bool { return a == (b == 0) })
	})
}

// told is a diagram, and what is to be told of it.
type told struct {
	b    api.Block
	want string
}

// try tries what is told of diagrams.
func try(t *testing.T, l []told) {
	t.Helper()
	for i, c := range l {
		if got := tell(t, c.b); got != c.want {
			t.Errorf("%d: %s: got %s, want %s", i, dump(c.b), got, c.want)
		}
	}
}

// tryTexts tries what is told of diagrams, written out; rows of texts and what is to be told.
func tryTexts(t *testing.T, rows [][2]string) {
	t.Helper()
	var l []told
	for _, row := range rows {
		l = append(l, told{parse(t, row[0]), row[1]})
	}
	try(t, l)
}
