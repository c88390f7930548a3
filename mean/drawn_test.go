package mean_test

import (
	"fmt"
	"strings"
	"testing"

	"serinette/api"
	"serinette/block"
	"serinette/mean"
	"serinette/quant"
)

// chance draws, always the same.
type chance struct {
	state uint64
	shows int // how many were drawn
}

// of returns a number from 0 to n - 1.
func (c *chance) of(n int) int {
	c.state = c.state*6364136223846793005 + 1442695040888963407
	return int(c.state >> 33 % uint64(n))
}

// among returns one of a list.
func among[T any](c *chance, l ...T) T { return l[c.of(len(l))] }

// number draws a number, mostly a small one, or none.
func (c *chance) number() api.Q {
	switch c.of(16) {
	case 0:
		return api.Q{}
	case 1:
		return q(int64(among(c, -1, 1)*(api.MaxNum-c.of(3))), int64(1+c.of(3)))
	case 2, 3, 4, 5:
		return q(int64(c.of(13)-6), int64(1+c.of(4)))
	case 6, 7, 8, 9, 10:
		return q(int64(c.of(2)), 1)
	}
	return q(int64(c.of(9)-3), 1)
}

func (c *chance) numbers(n int) []api.Q {
	var l []api.Q
	for range n {
		l = append(l, c.number())
	}
	return l
}

// ins draws what comes in: lists of about n numbers, of which some count as none.
func (c *chance) ins(lists, n int) [][]api.Q {
	var l [][]api.Q
	for range lists {
		in := c.numbers(among(c, n, n, n, n+c.of(3), c.of(n+1)))
		if len(in) > 0 && c.of(8) == 0 {
			in[c.of(len(in))] = noNumber()
		}
		l = append(l, in)
	}
	return l
}

// knobs are the controls that drawn diagrams have.
func knobs() []api.Block {
	return []api.Block{
		{Op: "knob", Name: "a", Nums: []api.Q{q(1, 1), q(0, 1), q(2, 1), q(0, 1)}},
		{Op: "knob", Name: "b", Nums: []api.Q{q(0, 1), q(-3, 2), q(4, 1), q(1, 1)}},
		{Op: "knob", Name: "c/d", Nums: []api.Q{q(1, 3), q(0, 1), q(1, 1), q(1, 4)}},
	}
}

// events draws events of these controls in about n samples, and of paths that there are not.
func (c *chance) events(n int) []api.Event {
	var l []api.Event
	for range c.of(6) {
		l = append(l, api.Event{At: c.of(n+4) - 2, Path: among(c, "a", "b", "c/d", "c", "show1"), Value: c.number()})
	}
	return l
}

func (c *chance) format() api.Format {
	for {
		f := api.Format{Kind: among(c, "fix", "float"), I: c.of(4), F: c.of(3), Round: among(c, "floor", "near", "zero"), Over: among(c, "sat", "wrap", "none")}
		if quant.Valid(f) {
			return f
		}
	}
}

// delay draws a number of samples, mostly few; at least one, if there must be some.
func (c *chance) delay(least int) int {
	return max(least, among(c, 0, 1, 1, 2, 3, c.of(9)))
}

func (c *chance) show() api.Block {
	c.shows++
	return api.Block{Op: "show", Name: fmt.Sprint("show", c.shows)}
}

// op draws one of these ops.
func (c *chance) op(ops string) api.Block { return leaf(among(c, strings.Fields(ops)...)) }

// leaf draws a block without Kids that has these ports; false: there is none.
func (c *chance) leaf(ins, outs int) (api.Block, bool) {
	switch [2]int{ins, outs} {
	case [2]int{1, 1}:
		return among(c, func() api.Block { return wire() }, func() api.Block { return delay(c.delay(0)) }, func() api.Block { return delay(c.delay(1)) }, func() api.Block { return c.op("neg abs floor round frac not") }, func() api.Block { return api.Block{Op: "table", Nums: c.numbers(1 + c.of(4))} }, func() api.Block { return api.Block{Op: "fit", Format: c.format()} }, c.show)(), true
	case [2]int{2, 1}:
		n := c.delay(0)
		vary := api.Block{Op: "vary", N: n, M: n + c.of(4)}
		return among(c, vary, vary, c.op("add sub mul add sub mul min max"), c.op("add sub mul div mod min max lt le eq ne and or xor shl shr")), true
	case [2]int{3, 1}:
		return among(c, leaf("pick"), api.Block{Op: "store", Nums: c.numbers(1 + c.of(4))}), true
	case [2]int{0, 1}:
		return among(c, num(c.number()), api.Block{Op: "wave", Nums: c.numbers(1 + c.of(4))}, among(c, knobs()...)), true
	case [2]int{1, 0}:
		return leaf("cut"), true
	}
	return api.Block{}, false
}

// row draws leaves side by side that have these ports.
func (c *chance) row(ins, outs int) api.Block {
	if b, ok := c.leaf(ins, outs); ok {
		return b
	}
	var l []api.Block
	for ; ins > 0 && outs > 0; outs-- {
		n := min(ins, 1+c.of(3))
		b, _ := c.leaf(n, 1)
		l = append(l, b)
		ins -= n
	}
	for range ins {
		l = append(l, leaf("cut"))
	}
	for range outs {
		b, _ := c.leaf(0, 1)
		l = append(l, b)
	}
	if len(l) == 0 {
		return two("seq", num(c.number()), leaf("cut"))
	}
	return balanced("par", l...)
}

// block draws a block with these ports.
func (c *chance) block(depth, ins, outs int) api.Block {
	if depth < 2 {
		return c.row(ins, outs)
	}
	between, sub := 1+c.of(4), depth-1
	switch c.of(14) {
	case 0, 1:
		i, o := c.of(ins+1), c.of(outs+1)
		return two("par", c.block(sub, i, o), c.block(sub, ins-i, outs-o))
	case 2, 3:
		return two("seq", c.block(sub, ins, between-1), c.block(sub, between-1, outs))
	case 4:
		return two("split", c.block(sub, ins, between), c.block(sub, between*(1+c.of(3)), outs))
	case 5:
		return two("merge", c.block(sub, ins, between*(1+c.of(3))), c.block(sub, between, outs))
	case 6, 7, 8:
		return c.rec(sub, ins, outs)
	case 9:
		return turned("down", 1+c.of(3), c.block(sub, ins, outs))
	case 10:
		return turned("up", 1+c.of(3), c.block(sub, ins, outs))
	case 11, 12:
		if ins > 0 {
			return one(among(c, "gate", "reset"), c.block(sub, ins-1, outs))
		}
	}
	return c.block(1, ins, outs)
}

// rec draws a rec with these ports, mostly one with few loops without a delay.
func (c *chance) rec(depth, ins, outs int) api.Block {
	taken, fed := c.of(outs+1), c.of(4)
	back := c.block(depth, taken, fed)
	if fed > 0 && c.of(3) > 0 {
		var l []api.Block
		for range fed {
			l = append(l, delay(among(c, 0, 1, 1, 2)))
		}
		back = two("seq", back, balanced("par", l...))
	}
	return two("rec", c.block(depth, ins+fed, outs), back)
}

// diagram draws a diagram with these ports that is not refused.
func (c *chance) diagram(depth, ins, outs int) api.Block {
	for {
		b := c.block(depth, ins, outs)
		if _, err := mean.New(b); err == api.OK {
			return b
		}
	}
}

// has tells whether a block of an op is in b.
func has(op string, b api.Block) bool {
	for _, kid := range b.Kids {
		if has(op, kid) {
			return true
		}
	}
	return b.Op == op
}

// P8.1, P8.3: drawn diagrams give and tell what the chapter's words say.
func TestDrawnByWords(t *testing.T) {
	c := &chance{state: 1}
	met, ops := map[string]int{}, strings.Fields("par seq split merge rec up down gate reset delay vary store wave table fit knob show pick")
	for range 20000 {
		b := c.diagram(1+c.of(6), c.of(4), c.of(4))
		ins, _, _ := block.Ports(b)
		n := c.of(12)
		in, l := c.ins(ins, n), c.events(n)
		outs, told := play(t, b, in, l, n)
		wantOuts, wantTold := playByWords(b, in, l, n)
		if got, want := textOfSignals(outs), textOfSignals(wantOuts); got != want {
			t.Fatalf("%s of %s, %v: got %s, want %s", dump(b), textOfSignals(in), l, got, want)
		}
		if got, want := textOfTold(told), textOfTold(wantTold); got != want {
			t.Fatalf("%s of %s, %v: told %s, want %s", dump(b), textOfSignals(in), l, got, want)
		}
		for _, op := range ops {
			if has(op, b) {
				met[op]++
			}
		}
		if len(told) > 0 {
			met["told"]++
		}
	}
	for _, op := range append(ops, "told") {
		if met[op] < 1000 {
			t.Errorf("%s: but %d", op, met[op])
		}
	}
}
