package kind_test

import (
	"math/big"
	"slices"
	"strings"
	"testing"

	"serinette/api"
	"serinette/block"
	"serinette/span"
)

// The chapter's words a second time, for the tests alone, one after the other, all rounds of all recs each time they are gone.

// words is what is found out on the way: the places where none came from, and in how many rounds recs ended.
type words struct {
	sources map[string][]int
	rounds  map[int]int
}

// tell tells of a block that stands at a place.
func (w words) tell(b api.Block, at []int, ins []api.Kind) []api.Kind {
	kid := func(k int, ins []api.Kind) []api.Kind { return w.tell(b.Kids[k], append(slices.Clone(at), k), ins) }
	switch b.Op {
	case "par":
		n := portsOf(b.Kids[0])
		return slices.Concat(kid(0, ins[:n]), kid(1, ins[n:]))
	case "seq":
		return kid(1, kid(0, ins))
	case "split":
		outs := kid(0, ins)
		var copies []api.Kind
		for i := range portsOf(b.Kids[1]) {
			copies = append(copies, outs[i%len(outs)])
		}
		return kid(1, copies)
	case "merge":
		outs := kid(0, ins)
		return kid(1, w.sums(outs, portsOf(b.Kids[1]), at))
	case "rec":
		return w.tellRec(b, ins, kid)
	case "up", "down":
		return timed(kid(0, ins))
	case "reset":
		return timed(kid(0, ins[1:]))
	case "gate":
		outs := timed(kid(0, ins[1:]))
		first := ins[0].Span
		isOn := !first.None && !first.Empty && first.Lo.D != 0 && first.Lo.N != 0 && first.Lo == first.Hi
		for i := range outs {
			if !isOn {
				outs[i].Span = span.Join(span.Point(q(0, 1)), outs[i].Span)
			}
		}
		return outs
	}
	outs := leafByWords(b, ins)
	if b.Op != "num" && mayBeNone(outs) && !mayBeNone(ins) {
		w.sources[textOfPlaces([][]int{at})] = at
	}
	return outs
}

// timed returns kinds that change at each sample.
func timed(l []api.Kind) []api.Kind {
	var r []api.Kind
	for _, k := range l {
		r = append(r, api.Kind{Span: k.Span, Rate: "sample"})
	}
	return r
}

// mayBeNone tells whether none is in the span of one signal.
func mayBeNone(l []api.Kind) bool {
	return slices.ContainsFunc(l, func(k api.Kind) bool { return span.Has(k.Span, api.Q{}) })
}

// sums adds up, in a merge at a place, what lies n apart, from the left.
func (w words) sums(l []api.Kind, n int, at []int) []api.Kind {
	sums := slices.Clone(l[:n])
	var mayBe []bool
	for _, k := range sums {
		mayBe = append(mayBe, k.Span.None)
	}
	for i, k := range l[n:] {
		sum := &sums[i%n]
		sum.Span, _ = span.Op("add", []api.Span{sum.Span, k.Span})
		sum.Rate = greatest([]api.Kind{*sum, k})
		mayBe[i%n] = mayBe[i%n] || k.Span.None
	}
	for i, sum := range sums {
		if sum.Span.None && !mayBe[i] {
			w.sources[textOfPlaces([][]int{at})] = at
		}
	}
	return sums
}

// tellRec goes the rounds of a rec.
func (w words) tellRec(b api.Block, ins []api.Kind, kid func(int, []api.Kind) []api.Kind) []api.Kind {
	heard, fed, _ := block.Ports(b.Kids[1])
	var back []api.Kind
	for range fed {
		back = append(back, api.Kind{Span: api.Span{Empty: true}, Rate: "const"})
	}
	for round := 1; ; round++ {
		outs := kid(0, append(slices.Clone(back), ins...))
		isDone := true
		for i, k := range kid(1, outs[:heard]) {
			s := span.Join(back[i].Span, k.Span)
			if round > 8 {
				s = span.Widen(back[i].Span, k.Span)
			}
			next := api.Kind{Span: s, Rate: greatest([]api.Kind{back[i], k})}
			isDone = isDone && next == back[i]
			back[i] = next
		}
		if isDone {
			w.rounds[round]++
			return outs
		}
	}
}

// hull returns the span of numbers, formed with numbers of any size.
func hull(nums []api.Q) api.Span {
	s := api.Span{Empty: true}
	den := big.NewInt(1)
	for _, n := range nums {
		if n.D == 0 {
			s.None = true
			continue
		}
		if s.Empty || big.NewRat(n.N, n.D).Cmp(big.NewRat(s.Lo.N, s.Lo.D)) < 0 {
			s.Lo = n
		}
		if s.Empty || big.NewRat(n.N, n.D).Cmp(big.NewRat(s.Hi.N, s.Hi.D)) > 0 {
			s.Hi = n
		}
		s.Empty = false
		d := big.NewInt(n.D)
		den.Div(new(big.Int).Mul(den, d), new(big.Int).GCD(nil, nil, den, d))
	}
	if !s.Empty && den.Cmp(big.NewInt(api.MaxNum)) <= 0 {
		s.Den = den.Int64()
	}
	return s
}

// leafByWords tells of a block without Kids.
func leafByWords(b api.Block, ins []api.Kind) []api.Kind {
	var spans []api.Span
	for _, k := range ins {
		spans = append(spans, k.Span)
	}
	told := func(s api.Span, rate string) []api.Kind { return []api.Kind{{Span: s, Rate: rate}} }
	// led is what a signal leads to something: Empty, if it is, and with its none.
	led := func(by api.Span, s api.Span) api.Span {
		if by.Empty {
			return api.Span{Empty: true, None: by.None}
		}
		s.None = s.None || by.None
		return s
	}
	withZero := func(s api.Span) api.Span { return span.Join(span.Point(q(0, 1)), s) }
	switch b.Op {
	case "cut":
		return nil
	case "wire", "show":
		return []api.Kind{ins[0]}
	case "num":
		return told(span.Point(b.Nums[0]), "const")
	case "fit":
		return told(span.Fit(b.Format, spans[0]), ins[0].Rate)
	case "delay":
		if b.N == 0 {
			return []api.Kind{ins[0]}
		}
		return told(withZero(spans[0]), "sample")
	case "vary":
		if b.M == 0 {
			return told(led(spans[1], spans[0]), greatest(ins))
		}
		return told(led(spans[1], withZero(spans[0])), "sample")
	case "table":
		return told(led(spans[0], hull(b.Nums)), ins[0].Rate)
	case "wave":
		return told(hull(b.Nums), map[bool]string{true: "const", false: "sample"}[len(b.Nums) == 1])
	case "store":
		return told(led(spans[2], span.Join(hull(b.Nums), spans[1])), "sample")
	case "knob":
		first, lo, hi, step := b.Nums[0], b.Nums[1], b.Nums[2], b.Nums[3]
		den := hull([]api.Q{first, lo, step}).Den
		if step.N == 0 {
			den = 0
		}
		return told(span.Make(lo, hi, den), "control")
	}
	s, _ := span.Op(b.Op, spans)
	return told(s, greatest(ins))
}

// sorted returns the places that were found, ascending.
func (w words) sorted() [][]int {
	var l [][]int
	for _, place := range w.sources {
		l = append(l, place)
	}
	slices.SortFunc(l, slices.Compare)
	return l
}

// byWords tries what is told of a diagram against the chapter's words, and returns what is found out on the way.
func byWords(t *testing.T, b api.Block, ins []api.Kind) words {
	t.Helper()
	w := words{map[string][]int{}, map[int]int{}}
	want := textOf(w.tell(b, nil, ins))
	if got := textOf(tell(t, b, ins)); got != want {
		t.Fatalf("%s of %s: got %s, want %s", dump(b), textOf(ins), got, want)
	}
	wantPlaces := textOfPlaces(w.sorted())
	if got := textOfPlaces(whence(t, b, ins)); got != wantPlaces {
		t.Fatalf("%s of %s: none from %s, want %s", dump(b), textOf(ins), got, wantPlaces)
	}
	return w
}

// P9.1: drawn diagrams, as the chapter's words say.
func TestDrawnByWords(t *testing.T) {
	c := &chance{state: 11}
	met := map[string]int{}
	ops := strings.Fields("par seq split merge rec up down gate reset delay vary store wave table fit knob show pick")
	for range 20000 {
		b := c.any()
		w := byWords(t, b, c.kinds(portsOf(b)))
		for _, op := range ops {
			if len(placesOf(op, b)) > 0 {
				met[op]++
			}
		}
		for _, place := range w.sources {
			if at, _ := block.At(b, place); at.Op == "merge" {
				met["merges that make none"]++
			}
			met["sources"]++
		}
	}
	for _, op := range append(ops, "sources") {
		if met[op] < 1000 {
			t.Errorf("%s: but %d", op, met[op])
		}
	}
	if met["merges that make none"] < 20 {
		t.Errorf("merges that make none: but %d", met["merges that make none"])
	}
}

// counter draws a block that adds a number to what goes in, up to a greatest one, mostly.
func (c *chance) counter() api.Block {
	add := two("seq", row(leaf("wire"), parse(c.word("(num 1)|(num 1)|(num 2)|(num 1/2)|(num -1)"))), leaf("add"))
	if c.of(6) == 0 {
		return add
	}
	end := api.Block{Op: "num", Nums: []api.Q{q(int64(c.of(14)), 1)}}
	return two("seq", row(add, end), leaf(c.word("min min min max mod")))
}

// chosen returns a block of so many ins that gives those with these numbers.
func chosen(ins int, l ...int) api.Block {
	var outs []api.Block
	for _, n := range l {
		wires := slices.Repeat([]api.Block{leaf("cut")}, ins)
		wires[n] = leaf("wire")
		outs = append(outs, row(wires...))
	}
	return two("split", many(ins, leaf("wire")), row(outs...))
}

// P9.1: drawn recs in which what is fed back grows for some rounds, and ends by itself or is widened.
func TestDrawnRounds(t *testing.T) {
	c := &chance{state: 12}
	rounds := map[int]int{}
	for range 6000 {
		n := 1 + c.of(4)
		var counters, delays []api.Block
		var from []int
		for range n {
			counters = append(counters, c.counter())
			delays = append(delays, parse(c.word("(delay 1)|(delay 1)|(delay 2)|(seq (par (split wire (par wire wire)) (wave 0 1)) (store 1 2))")))
			from = append(from, c.of(n))
		}
		isOpen := c.of(2) == 0
		if isOpen {
			counters[n-1] = leaf(c.word("add min max"))
		}
		b := two("rec", row(counters...), two("seq", chosen(n, from...), row(delays...)))
		if isOpen && c.of(2) == 0 {
			b = two("rec", two("seq", leaf("add"), two("merge", b, leaf("wire"))), delay(1))
		}
		w := byWords(t, b, c.kinds(portsOf(b)))
		for round := range w.rounds {
			rounds[round]++
		}
	}
	for round := 2; round <= 13; round++ {
		if rounds[round] < 20 {
			t.Errorf("%d rounds: but %d", round, rounds[round])
		}
	}
}
