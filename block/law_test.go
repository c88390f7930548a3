package block_test

import (
	"testing"

	"serinette/api"
	"serinette/block"
)

// P5.4: the ports of a block hang on its Kids' ports alone.
func TestPortsHangOnKidsPorts(t *testing.T) {
	c := chance(6)
	tried := 0
	for range 20000 {
		b := c.fitting(2+c.of(4), c.of(4), c.of(4))
		ins, outs, err := block.Ports(b)
		if err != api.OK {
			continue
		}
		place := among(&c, places(b)...)
		kidIns, kidOuts, err := block.Ports(*pointer(&b, place))
		if err != api.OK {
			t.Fatalf("a part of %s is refused: %v", dump(b), err)
		}
		other, err := block.Put(b, place, c.fitting(1+c.of(3), kidIns, kidOuts))
		if err != api.OK {
			t.Fatalf("Put: %v", err)
		}
		if i, o, err := block.Ports(other); err != api.ErrTwice && err != api.ErrLimit {
			tried++
			if i != ins || o != outs || err != api.OK {
				t.Fatalf("Ports of %s: got %d, %d, %v; of %s: %d, %d", dump(other), i, o, err, dump(b), ins, outs)
			}
		}
	}
	if tried < 5000 {
		t.Errorf("tried but %d", tried)
	}
}

// P5.4: a block in whose place one of other ports is put is refused, or has ports by these.
func TestPortsOfOtherKids(t *testing.T) {
	for _, op := range joints() {
		for _, kid := range []api.Block{wire(), cut(), num(1, 1), leaf("add"), leaf("pick"), box(2, 2), box(3, 2), box(0, 0)} {
			for _, other := range []api.Block{wire(), leaf("neg"), delay(3), show("a"), one("gate", num(1, 1)), box(2, 3), leaf("mul"), control("a"), numbered("wave", none)} {
				b := two(op, kid, other)
				ins, outs, err := portsByWords(b)
				if i, o, e := block.Ports(b); i != ins || o != outs || e != err {
					t.Errorf("Ports of %s: got %d, %d, %v", dump(b), i, o, e)
				}
			}
		}
	}
}

// P5.4: Text is one for each block, and Parse of it gives the block again.
func TestTextIsOneForEach(t *testing.T) {
	c := chance(7)
	seen := map[string]api.Block{}
	var l []api.Block
	for range 20000 {
		b := c.block(1 + c.of(6))
		if c.of(2) == 0 {
			c.spoil(&b)
		}
		l = append(l, b)
	}
	for _, b := range append(l, samples()...) {
		text, err := block.Text(b)
		if isValid(b) != (err == api.OK) {
			t.Fatalf("Text of %s: %v", dump(b), err)
		}
		if err != api.OK {
			continue
		}
		if other, ok := seen[text]; ok && !block.Same(b, other) {
			t.Fatalf("%s and %s have one text: %s", dump(b), dump(other), text)
		}
		seen[text] = b
		got, err := block.Parse(text)
		if len(text) <= api.MaxText && (!same(got, b) || err != api.OK) {
			t.Fatalf("Parse(%q): got %s, %v", text, dump(got), err)
		}
		if again, err := block.Text(got); len(text) <= api.MaxText && (again != text || err != api.OK) {
			t.Fatalf("Text of Parse(%q): got %q, %v", text, again, err)
		}
	}
	if len(seen) < 3000 {
		t.Errorf("tried but %d", len(seen))
	}
}

// P5.4: split and merge with k = 1 have the ports of seq.
func TestSplitAndMergeAsSeq(t *testing.T) {
	c := chance(8)
	fits := 0
	for range 20000 {
		n := c.of(5)
		a, b := c.fitting(1+c.of(4), c.of(5), n), c.fitting(1+c.of(4), n, c.of(5))
		ins, outs, err := block.Ports(two("seq", a, b))
		for _, op := range []string{"split", "merge"} {
			i, o, e := block.Ports(two(op, a, b))
			switch {
			case n == 0 && e == api.OK:
				t.Fatalf("%s of %s and %s fits", op, dump(a), dump(b))
			case n > 0 && (i != ins || o != outs || e != err):
				t.Fatalf("Ports of %s of %s and %s: got %d, %d, %v, those of seq are %d, %d, %v", op, dump(a), dump(b), i, o, e, ins, outs, err)
			case e == api.OK:
				fits++
			}
		}
	}
	if fits < 5000 {
		t.Errorf("tried but %d", fits)
	}
}

// The chapter's examples.
func TestExamples(t *testing.T) {
	wantPorts(t, block.Join("rec", block.Leaf("add"), delay(1)), 1, 1)
	wantPorts(t, block.Join("split", block.Leaf("wire"), block.Leaf("add")), 1, 1)
	wantPorts(t, block.Join("merge", block.Join("par", wire(), block.Join("par", wire(), wire())), wire()), 3, 1)
	wantRefused(t, block.Join("seq", cut(), wire()), api.ErrPorts)
	wantPorts(t, one("gate", wire()), 2, 1)
	for _, text := range []string{"(seq (par wire (num 1/2)) mul)", "(fit fix(1,2,near,sat))", `(knob "a/gain" 1 0 2 1/10)`} {
		b, err := block.Parse(text)
		if got := mustText(t, b); got != text || err != api.OK {
			t.Errorf("Parse(%q): got %s, %v", text, dump(b), err)
		}
	}
	if b, _ := block.Parse("(seq (par wire (num 1/2)) mul)"); !block.Same(b, block.Chain([]api.Block{block.Row([]api.Block{wire(), block.Num(q(1, 2))}), block.Leaf("mul")})) {
		t.Errorf("example 3: got %s", dump(b))
	}
}

// R1, R4: no function changes its arguments, whatever these are; equal calls answer alike.
func TestArgumentsStay(t *testing.T) {
	l := someBlocks()
	for i, b := range l {
		before := copied(b)
		other := l[(i*7+3)%len(l)]
		call := func() (ins, outs, knobs, shows, size, depth int, text string, isSame bool, e [4]api.Errno) {
			ins, outs, e[0] = block.Ports(b)
			k, err := block.Knobs(b)
			for i := range k {
				k[i].Path, k[i].Init = "scrambled", none
			}
			knobs, e[1] = len(k), err
			s, err := block.Shows(b)
			for i := range s {
				s[i] = "scrambled"
			}
			shows, e[2] = len(s), err
			text, e[3] = block.Text(b)
			return ins, outs, knobs, shows, block.Size(b), block.Depth(b), text, block.Same(b, other), e
		}
		i1, o1, k1, s1, n1, d1, t1, same1, e1 := call()
		i2, o2, k2, s2, n2, d2, t2, same2, e2 := call()
		if i1 != i2 || o1 != o2 || k1 != k2 || s1 != s2 || n1 != n2 || d1 != d2 || t1 != t2 || same1 != same2 || e1 != e2 || !same(b, before) {
			t.Errorf("calls of %.200s are unlike", dump(before))
		}
	}
}
