package kind_test

import (
	"slices"
	"testing"

	"serinette/api"
	"serinette/block"
	"serinette/kind"
	"serinette/mean"
	"serinette/ratio"
	"serinette/span"
)

// value draws a number of a span in which there is one, or its none.
func (c *chance) value(s api.Span) api.Q {
	if s.None && (s.Empty || c.of(4) == 0) {
		return api.Q{}
	}
	l := []api.Q{s.Lo, s.Hi, q(0, 1), q(1, 1)}
	for range 4 {
		den := s.Den
		if den == 0 {
			den = int64(1 + c.of(9))
		}
		l = append(l, q(int64(c.of(41)-20), den), ratio.Add(s.Lo, q(int64(c.of(9)), den)), ratio.Sub(s.Hi, q(int64(c.of(9)), den)))
	}
	l = slices.DeleteFunc(l, func(n api.Q) bool { return !ratio.Is(n) || !span.Has(s, n) })
	return among(c, l...)
}

// signal draws what comes in at n samples: it stays in the span, and changes as the rate says.
func (c *chance) signal(k api.Kind, n int, isSet map[int]bool) []api.Q {
	var l []api.Q
	for t := range n {
		isNew := t == 0 || k.Rate == "sample" || k.Rate == "control" && isSet[t]
		if isNew {
			l = append(l, c.value(k.Span))
		} else {
			l = append(l, l[t-1])
		}
	}
	return l
}

// events draws events of the controls of drawn diagrams.
func (c *chance) events(n int) []api.Event {
	var l []api.Event
	for range c.of(5) {
		l = append(l, api.Event{At: c.of(n), Path: c.word("a b c/d e f"), Value: q(int64(c.of(17)-6), int64(1+c.of(5)))})
	}
	return l
}

// signalKinds draws kinds of signals that there can be.
func (c *chance) signalKinds(n int) []api.Kind {
	l := c.kinds(n)
	for i := range l {
		if s := l[i].Span; s.Empty && !s.None {
			l[i].Span = c.span()
		}
	}
	return l
}

// played is a drawn run of a diagram, and what is told of it.
type played struct {
	b         api.Block
	kinds     []api.Kind
	ins, outs [][]api.Q
	isSet     map[int]bool // the samples at which events are set
	told      []api.Kind
	whence    [][]int
}

// play draws a run of some samples.
func (c *chance) play(t *testing.T, b api.Block, l []api.Kind) played {
	t.Helper()
	const n = 14
	p := played{b: b, kinds: l, isSet: map[int]bool{}, told: tell(t, b, l), whence: whence(t, b, l)}
	events := c.events(n)
	for _, e := range events {
		p.isSet[e.At] = true
	}
	for _, k := range l {
		p.ins = append(p.ins, c.signal(k, n, p.isSet))
	}
	outs, _, err := mean.Play(b, p.ins, events, n)
	if err != api.OK || len(outs) != len(p.told) {
		t.Fatalf("%s: %d outs, told %s, %v", dump(b), len(outs), textOf(p.told), err)
	}
	p.outs = outs
	return p
}

// P9.2, P6: each out stays in its span; const ones never change, control ones at events alone.
func TestRunsStayInKinds(t *testing.T) {
	c := &chance{state: 31}
	met := map[string]int{}
	for range 20000 {
		b := c.any()
		p := c.play(t, b, c.signalKinds(portsOf(b)))
		for i, k := range p.told {
			met[k.Rate]++
			if !k.Span.None {
				met["never none"]++
			}
			if ratio.Is(k.Span.Lo) || ratio.Is(k.Span.Hi) {
				met["bounded"]++
			}
			for s, n := range p.outs[i] {
				if !span.Has(k.Span, n) {
					t.Fatalf("%s of %s (%v): out %d is %s at %d, told %s", dump(b), textOf(p.kinds), p.ins, i, ratio.Text(n), s, textOf(p.told))
				}
				isChange := s > 0 && n != p.outs[i][s-1]
				if isChange && (k.Rate == "const" || k.Rate == "control" && !p.isSet[s]) {
					t.Fatalf("%s of %s: out %d changes at %d, told %s", dump(b), textOf(p.kinds), i, s, textOf(p.told))
				}
				if isChange {
					met["changes of "+k.Rate]++
				}
			}
		}
	}
	for _, what := range []string{"const", "control", "sample", "never none", "bounded", "changes of control", "changes of sample"} {
		if met[what] < 500 {
			t.Errorf("%s: but %d", what, met[what])
		}
	}
}

// P9.2: so do recs that count, whose spans are widened.
func TestCountersStayInKinds(t *testing.T) {
	c := &chance{state: 32}
	for range 3000 {
		n := 1 + c.of(3)
		counters := make([]api.Block, n)
		for i := range counters {
			counters[i] = c.counter()
		}
		counters[n-1] = leaf(c.word("add sub min max mul"))
		b := two("rec", row(counters...), many(n, delay(1)))
		p := c.play(t, b, c.signalKinds(1))
		for i, k := range p.told {
			for s, n := range p.outs[i] {
				if !span.Has(k.Span, n) {
					t.Fatalf("%s of %s (%v): out %d is %s at %d, told %s", dump(b), textOf(p.kinds), p.ins, i, ratio.Text(n), s, textOf(p.told))
				}
			}
		}
	}
}

// hasNoneWithin tells whether one of the Nums of b is none.
func hasNoneWithin(b api.Block) bool {
	return slices.Contains(b.Nums, api.Q{}) || slices.ContainsFunc(b.Kids, hasNoneWithin)
}

// P9.2, P6: if no in and no Nums is none and Whence is empty, no out is ever none, nor told to be.
func TestNoneFromNowhere(t *testing.T) {
	c := &chance{state: 33}
	tried, comes := 0, 0
	for tried < 8000 {
		b := c.any()
		if hasNoneWithin(b) {
			continue
		}
		tried++
		l := c.signalKinds(portsOf(b))
		for i := range l {
			if l[i].Span.Empty {
				l[i].Span = c.span()
			}
			l[i].Span.None = false
		}
		p := c.play(t, b, l)
		if len(p.whence) > 0 {
			comes++
			continue
		}
		for i, k := range p.told {
			if k.Span.None || slices.Contains(p.outs[i], api.Q{}) {
				t.Fatalf("%s of %s: none from nowhere: %v, told %s", dump(b), textOf(l), p.outs[i], textOf(p.told))
			}
		}
	}
	if comes < 1000 || tried-comes < 1000 {
		t.Errorf("none from somewhere %d, from nowhere %d", comes, tried-comes)
	}
}

// P9.1: Whence has places of blocks that may make none: leaves but num and those that only pass on, and merges; ascending.
func TestWhenceIsOfBlocks(t *testing.T) {
	c := &chance{state: 34}
	for range 8000 {
		b := c.any()
		l := whence(t, b, c.kinds(portsOf(b)))
		for i, place := range l {
			at, err := block.At(b, place)
			mayMake := at.Op == "merge" || len(at.Kids) == 0 && !slices.Contains([]string{"num", "wire", "cut", "show", "knob", "delay", "vary", "pick"}, at.Op)
			if err != api.OK || !mayMake {
				t.Fatalf("%s: none from %v: %s, %v", dump(b), place, at.Op, err)
			}
			if i > 0 && slices.Compare(l[i-1], place) >= 0 {
				t.Fatalf("%s: none from %v", dump(b), l)
			}
		}
	}
}

// P9.1: what is told of parts by themselves is told of the whole.
func TestToldByParts(t *testing.T) {
	c := &chance{state: 35}
	for range 3000 {
		n := 1 + c.of(3)
		a, b := c.diagram(1+c.of(4), c.of(3), n), c.diagram(1+c.of(4), n, c.of(3))
		insA, insB := c.kinds(portsOf(a)), c.kinds(n)
		same := func(whole api.Block, ins, want []api.Kind) {
			t.Helper()
			if _, err := kind.Tell(whole, ins); err == api.ErrTwice {
				return
			}
			if got := textOf(tell(t, whole, ins)); got != textOf(want) {
				t.Fatalf("%s of %s: got %s, want %s", dump(whole), textOf(ins), got, textOf(want))
			}
		}
		outs := tell(t, a, insA)
		for _, op := range []string{"seq", "split", "merge"} {
			same(two(op, a, b), insA, tell(t, b, outs))
		}
		same(two("par", a, b), slices.Concat(insA, insB), slices.Concat(outs, tell(t, b, insB)))
		same(two("rec", a, two("split", leaf("wire"), leaf("cut"))), insA, outs)
		same(one("up", 2, a), insA, timed(outs))
		same(one("reset", 0, a), append(c.kinds(1), insA...), timed(outs))
	}
}

// P9.1: none of this hangs on what is never heard: a part whose outs are cut off.
func TestCutOff(t *testing.T) {
	c := &chance{state: 36}
	for range 2000 {
		b, more := c.any(), c.diagram(1+c.of(4), c.of(3), 1)
		whole := two("par", b, two("seq", more, leaf("cut")))
		ins := c.kinds(portsOf(b))
		if _, err := kind.Keeps(whole); err != api.OK {
			continue
		}
		if got, want := textOf(tell(t, whole, slices.Concat(ins, c.kinds(portsOf(more))))), textOf(tell(t, b, ins)); got != want {
			t.Fatalf("%s: got %s, want %s", dump(whole), got, want)
		}
	}
}
