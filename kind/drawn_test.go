package kind_test

import (
	"fmt"
	"strings"

	"serinette/api"
	"serinette/block"
	"serinette/cause"
)

// chance draws, always the same.
type chance struct {
	state uint64
	shows int // how many were drawn
}

// of returns a number from 0 to n - 1.
func (c *chance) of(n int) int {
	c.state = c.state*6364136223846793005 + 1442695040888963407
	return int(c.state >> 33 % uint64(n))
}

// among returns one of a list.
func among[T any](c *chance, l ...T) T { return l[c.of(len(l))] }

// word returns one of several words, or texts parted by strokes.
func (c *chance) word(text string) string {
	if strings.Contains(text, "|") {
		return among(c, strings.Split(text, "|")...)
	}
	return among(c, strings.Fields(text)...)
}

// kinds draws kinds of signals that there may be, but for a few.
func (c *chance) kinds(n int) []api.Kind {
	var l []api.Kind
	for range n {
		s := c.span()
		if c.of(12) == 0 {
			s = api.Span{Empty: true, None: c.of(2) == 0}
		}
		l = append(l, api.Kind{Span: s, Rate: c.word("const control sample sample")})
	}
	return l
}

// span draws a span in which numbers are, mostly small ones.
func (c *chance) span() api.Span {
	den := among(c, 1, 1, 1, 2, 3, 4)
	lo := c.of(9*den) - 3*den
	hi := lo + among(c, 0, 0, 1, 2, c.of(20))
	s := api.Span{Lo: q(int64(lo), int64(den)), Hi: q(int64(hi), int64(den)), Den: int64(den)}
	switch c.of(20) {
	case 0:
		s.Lo = api.Q{}
	case 1:
		s.Hi = api.Q{}
	case 2:
		s.Den = 0
	case 3:
		s.Hi = q(api.MaxNum-int64(c.of(2)), 1)
	case 4:
		s.Lo = q(1-api.MaxNum, int64(1+c.of(3)))
	}
	s.None = c.of(8) == 0
	return s
}

// portsOf returns how many ins a diagram has whose ports fit.
func portsOf(b api.Block) int {
	ins, _, _ := block.Ports(b)
	return ins
}

// leaf draws a block without Kids that has these ports; false: there is none.
func (c *chance) leaf(ins, outs int) (api.Block, bool) {
	switch [2]int{ins, outs} {
	case [2]int{1, 1}:
		if c.of(9) == 0 {
			c.shows++
			return parse(fmt.Sprintf("(show %q)", fmt.Sprint("show", c.shows))), true
		}
		return parse(c.word("wire|wire|neg|abs|floor|round|frac|not|(delay 0)|(delay 1)|(delay 3)|(table 1/2 -3 2)|(table 1 none)|(table 7)|(fit fix(1,2,near,sat))|(fit fix(3,0,floor,wrap))|(fit fix(2,1,zero,none))|(fit float(2,1,near,sat))|(fit float(3,2,floor,none))")), true
	case [2]int{2, 1}:
		return parse(c.word("add|add|add|sub|sub|mul|mul|min|min|max|max|div|mod|lt|le|eq|ne|and|or|xor|shl|shr|(vary 0 0)|(vary 0 2)|(vary 1 1)|(vary 1 4)")), true
	case [2]int{3, 1}:
		return parse(c.word("pick|pick|(store 0 0)|(store 1/2 3 -1)|(store none 1)")), true
	case [2]int{0, 1}:
		return parse(c.word(`(num 0)|(num 1)|(num 1)|(num -1/2)|(num 3)|(num 1000000)|(num none)|(wave 1 2 3)|(wave 1/2)|(wave 0 1)|(wave 4 none)|(knob "a" 1 0 2 0)|(knob "b" 0 -3/2 4 1)|(knob "c/d" 1/3 0 1 1/4)|(knob "e" 1 1 1 0)`)), true
	case [2]int{1, 0}:
		return leaf("cut"), true
	}
	return api.Block{}, false
}

// row draws leaves side by side that have these ports.
func (c *chance) row(ins, outs int) api.Block {
	var l []api.Block
	for ins > 0 || outs > 0 {
		i, o := min(ins, c.of(4)), min(outs, 1)
		if b, ok := c.leaf(i, o); ok {
			l = append(l, b)
			ins, outs = ins-i, outs-o
		}
	}
	if len(l) == 0 {
		return parse("(seq (num 1) cut)")
	}
	return row(l...)
}

// block draws a block with these ports.
func (c *chance) block(depth, ins, outs int) api.Block {
	between, sub := 1+c.of(3), depth-1
	if depth < 2 {
		return c.row(ins, outs)
	}
	switch c.of(14) {
	case 0, 1:
		i, o := c.of(ins+1), c.of(outs+1)
		return two("par", c.block(sub, i, o), c.block(sub, ins-i, outs-o))
	case 2, 3:
		return two("seq", c.block(sub, ins, between), c.block(sub, between, outs))
	case 4:
		return two("split", c.block(sub, ins, between), c.block(sub, between*(1+c.of(3)), outs))
	case 5:
		return two("merge", c.block(sub, ins, between*(1+c.of(3))), c.block(sub, between, outs))
	case 6, 7, 8, 9:
		return c.rec(sub, ins, outs)
	case 10:
		return one(c.word("up down"), 1+c.of(3), c.block(sub, ins, outs))
	case 11, 12:
		if ins > 0 {
			return one(c.word("gate gate reset"), 0, c.block(sub, ins-1, outs))
		}
	}
	return c.row(ins, outs)
}

// rec draws a rec with these ports, mostly one with few loops without a delay.
func (c *chance) rec(depth, ins, outs int) api.Block {
	heard, fed := c.of(outs+1), c.of(4)
	back := c.block(depth, heard, fed)
	if fed > 0 && c.of(3) > 0 {
		var l []api.Block
		for range fed {
			l = append(l, parse(c.word("(delay 0)|(delay 1)|(delay 1)|(delay 2)|(seq (par (split wire (par wire wire)) (wave 0 1)) (store 1 2))")))
		}
		back = two("seq", back, row(l...))
	}
	return two("rec", c.block(depth, ins+fed, outs), back)
}

// diagram draws a diagram with these ports that is not refused.
func (c *chance) diagram(depth, ins, outs int) api.Block {
	for {
		b := c.block(depth, ins, outs)
		if _, isLoop, err := cause.Around(b); err == api.OK && !isLoop {
			return b
		}
	}
}

// any draws a diagram of some depth and ports that is not refused.
func (c *chance) any() api.Block { return c.diagram(1+c.of(6), c.of(4), c.of(4)) }

// placesOf returns the places of blocks of b that an op has, a block ahead of its Kids.
func placesOf(op string, b api.Block) [][]int {
	var l [][]int
	if b.Op == op {
		l = append(l, nil)
	}
	for k, kid := range b.Kids {
		for _, place := range placesOf(op, kid) {
			l = append(l, append([]int{k}, place...))
		}
	}
	return l
}
