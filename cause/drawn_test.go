package cause_test

import (
	"strings"
	"testing"

	"serinette/api"
)

// chance draws numbers, always the same ones.
type chance uint64

// of returns a number from 0 to n - 1.
func (c *chance) of(n int) int {
	*c = *c*6364136223846793005 + 1442695040888963407
	return int(uint64(*c) >> 33 % uint64(n))
}

// among returns one of a list.
func among[T any](c *chance, l ...T) T { return l[c.of(len(l))] }

// delay draws a number of samples, mostly few; at least one, if there must be some.
func (c *chance) delay(least int) int {
	return max(least, among(c, 0, 0, 0, 1, 1, 2, 3, c.of(20), c.of(api.MaxDelay+1)))
}

// mix draws delays from ins to outs, some of which are no way.
func (c *chance) mix(ins, outs, least int) api.Block {
	gaps := c.of(4)
	rows := make([][]int, outs)
	for k := range rows {
		for range ins {
			n := -1
			if c.of(4) >= gaps {
				n = c.delay(least)
			}
			rows[k] = append(rows[k], n)
		}
	}
	return mix(rows...)
}

// leaf draws a block without Kids that has these ports; false: there is none.
func (c *chance) leaf(ins, outs int) (api.Block, bool) {
	n := c.delay(0)
	vary := api.Block{Op: "vary", N: n, M: min(n+c.of(5), api.MaxDelay)}
	store := api.Block{Op: "store", Nums: num().Nums}
	switch [2]int{ins, outs} {
	case [2]int{1, 1}:
		return among(c, wire(), delay(n), delay(n), leaf(among(c, strings.Fields("neg abs floor round frac not")...)), api.Block{Op: "table", Nums: num().Nums}, api.Block{Op: "fit", Format: api.Format{Kind: "fix", I: 1, F: 2, Round: "near", Over: "sat"}}), true
	case [2]int{2, 1}:
		return among(c, vary, vary, leaf(among(c, strings.Fields("add sub mul div mod min max lt le eq ne and or xor shl shr")...))), true
	case [2]int{3, 1}:
		return among(c, store, store, leaf("pick")), true
	case [2]int{0, 1}:
		return among(c, num(), api.Block{Op: "wave", Nums: num().Nums}, api.Block{Op: "knob", Name: "k", Nums: []api.Q{{D: 1}, {D: 1}, {D: 1}, {D: 1}}}), true
	case [2]int{1, 0}:
		return cut(), true
	}
	return api.Block{}, false
}

// row draws leaves side by side that have these ports.
func (c *chance) row(ins, outs int) api.Block {
	if b, ok := c.leaf(ins, outs); ok {
		return b
	}
	var l []api.Block
	for ; ins > 0 && outs > 0; outs-- {
		n := min(ins, 1+c.of(3))
		b, _ := c.leaf(n, 1)
		l = append(l, b)
		ins -= n
	}
	for range ins {
		l = append(l, cut())
	}
	for range outs {
		b, _ := c.leaf(0, 1)
		l = append(l, b)
	}
	if len(l) == 0 {
		return two("seq", num(), cut())
	}
	return balanced("par", l...)
}

// block draws a diagram with these ports.
func (c *chance) block(depth, ins, outs int) api.Block {
	if depth < 2 {
		if ins > 0 && outs > 0 && ins*outs < 16 && c.of(3) > 0 {
			return c.mix(ins, outs, 0)
		}
		return c.row(ins, outs)
	}
	between, sub := 1+c.of(4), depth-1
	switch c.of(12) {
	case 0, 1:
		i, o := c.of(ins+1), c.of(outs+1)
		return two("par", c.block(sub, i, o), c.block(sub, ins-i, outs-o))
	case 2:
		return two("seq", c.block(sub, ins, between-1), c.block(sub, between-1, outs))
	case 3:
		return two("split", c.block(sub, ins, between), c.block(sub, between*(1+c.of(3)), outs))
	case 4:
		return two("merge", c.block(sub, ins, between*(1+c.of(3))), c.block(sub, between, outs))
	case 5, 6:
		return c.rec(sub, ins, outs)
	case 7:
		return turned("down", 1+c.of(api.MaxTurns), c.block(sub, ins, outs))
	case 8:
		return turned("up", 1+c.of(2), c.block(sub, ins, outs))
	case 9:
		if ins > 0 {
			return one(among(c, "gate", "reset"), c.block(sub, ins-1, outs))
		}
	}
	return c.block(1, ins, outs)
}

// rec draws a rec with these ports, mostly one with few loops without a delay.
func (c *chance) rec(depth, ins, outs int) api.Block {
	taken, fed := c.of(outs+1), c.of(4)
	back := c.block(depth, taken, fed)
	if fed > 0 && c.of(3) == 0 {
		var l []api.Block
		for range fed {
			l = append(l, delay(among(c, 0, 1, 2, c.of(9))))
		}
		back = two("seq", back, balanced("par", l...))
	}
	return two("rec", c.block(depth, ins+fed, outs), back)
}

// P7.1: drawn diagrams, as the chapter's words say.
func TestByWords(t *testing.T) {
	c := chance(1)
	around, recs, turning, plain := 0, 0, 0, 0
	for range 30000 {
		b := c.block(1+c.of(6), c.of(5), c.of(5))
		got, want := tell(t, b), byWords(b)
		if got != want {
			t.Fatalf("%s: got %s, want %s", dump(b), got, want)
		}
		switch loops := got[strings.LastIndex(got, "["):]; {
		case strings.HasPrefix(got, "around"):
			around++
		case strings.ContainsAny(strings.ReplaceAll(loops, "-1", ""), "0123456789"):
			turning++
		case loops != "[]":
			recs++
		default:
			plain++
		}
	}
	if around < 1000 || turning < 2000 || recs < 3000 || plain < 5000 {
		t.Errorf("around %d, fed back %d, other recs %d, others %d", around, turning, recs, plain)
	}
}

// P7.1: drawn recs of many outs, in which loops pass more of these.
func TestRecsByWords(t *testing.T) {
	c := chance(2)
	passed := map[int]int{}
	for i := range 6000 {
		outs := 1 + c.of(8)
		rows := make([][]int, outs)
		for k := range rows {
			for j := range outs {
				n := among(&c, -1, 1, 2, 5)
				// Some have a ring through all outs, and then fewer ways besides.
				if i%2 > 0 && (j+1)%outs == k || c.of(outs*(1+i%2)) == 0 && (j != k || c.of(4) == 0) {
					n = 0
				}
				rows[k] = append(rows[k], n)
			}
		}
		back := copies(max(1, outs-c.of(3)), delay(among(&c, 0, 0, 0, 1)))
		b := two("rec", mix(rows...), balanced("par", back...))
		got, want := tell(t, b), byWords(b)
		if got != want {
			t.Fatalf("%s: got %s, want %s", dump(b), got, want)
		}
		if strings.HasPrefix(got, "around") {
			passed[len(strings.Fields(got))-2]++
		}
	}
	for n := 1; n <= 6; n++ {
		if passed[n] < 20 {
			t.Errorf("loops of %d outs: but %d", n, passed[n])
		}
	}
}

// P7.1: drawn diagrams within others are told as by themselves, and at their place.
func TestDrawnWithin(t *testing.T) {
	c := chance(3)
	for range 3000 {
		ins, outs := 1+c.of(3), 1+c.of(3)
		b := c.block(1+c.of(5), ins, outs)
		want := tell(t, b)
		wantWithin := strings.Replace(want, "around [", "around [0 0 ", 1)
		wantWithin = strings.Replace(wantWithin, "[0 0 ]", "[0 0]", 1)
		if got := tell(t, two("seq", turned("down", 1, b), wires(outs))); got != wantWithin {
			t.Fatalf("%s: by itself %s, within %s", dump(b), want, got)
		}
		if got := tell(t, two("seq", turned("up", 1, b), wires(outs))); got != wantWithin {
			t.Fatalf("%s: by itself %s, within %s", dump(b), want, got)
		}
	}
}
