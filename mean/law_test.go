package mean_test

import (
	"slices"
	"testing"

	"serinette/api"
	"serinette/block"
	"serinette/cause"
)

// alike tries whether all diagrams give and tell the same, of drawn ins and events.
func alike(t *testing.T, c *chance, l ...api.Block) {
	t.Helper()
	n, _, _ := block.Ports(l[0])
	ins, set := c.ins(n, 7), c.events(7)
	outs, told := play(t, l[0], ins, set, 7)
	for _, b := range l[1:] {
		others, othersTold := play(t, b, ins, set, 7)
		if got, want := textOfSignals(others), textOfSignals(outs); got != want {
			t.Fatalf("%s gives %s, %s gives %s", dump(l[0]), want, dump(b), got)
		}
		if got, want := textOfTold(othersTold), textOfTold(told); got != want {
			t.Fatalf("%s tells %s, %s tells %s", dump(l[0]), want, dump(b), got)
		}
	}
}

// small draws a diagram of little depth that is not refused.
func (c *chance) small(ins, outs int) api.Block { return c.diagram(1+c.of(4), ins, outs) }

// withoutShows returns b with wires in the place of shows, so that it may stand twice.
func withoutShows(b api.Block) api.Block {
	if b.Op == "show" {
		return wire()
	}
	b.Kids = slices.Clone(b.Kids)
	for i, kid := range b.Kids {
		b.Kids[i] = withoutShows(kid)
	}
	return b
}

// P8.4, P4: par and seq are associative, they change places, and wires are neutral.
func TestParAndSeqLaws(t *testing.T) {
	c := &chance{state: 11}
	for range 2000 {
		i, j, k, l := c.of(4), 1+c.of(3), 1+c.of(3), c.of(4)
		a, b, d := c.small(i, j), c.small(j, k), c.small(k, l)
		alike(t, c, two("par", two("par", a, b), d), two("par", a, two("par", b, d)))
		alike(t, c, two("seq", two("seq", a, b), d), two("seq", a, two("seq", b, d)))
		e := c.small(j, l)
		alike(t, c, two("seq", two("par", a, b), two("par", e, d)), two("par", two("seq", a, e), two("seq", b, d)))
		alike(t, c, a, two("seq", a, wires(j)))
		alike(t, c, b, two("seq", b, wires(k)), two("seq", wires(j), b), two("split", wires(j), b), two("merge", b, wires(k)))
	}
}

// sumFromLeft is a diagram that adds up so many ins, from the left.
func sumFromLeft(n int) api.Block {
	if n == 1 {
		return wire()
	}
	return two("seq", two("par", sumFromLeft(n-1), wire()), leaf("add"))
}

// apart is a diagram of n ins that gives those that lie m apart, from the ith on.
func apart(n, m, i int) api.Block {
	var l []api.Block
	for k := range n {
		if k%m == i {
			l = append(l, wire())
		} else {
			l = append(l, leaf("cut"))
		}
	}
	return balanced("par", l...)
}

// P8.4, P4: split and merge of equal numbers are seq; else split is by copies, and merge by sums from the left.
func TestSplitAndMergeLaws(t *testing.T) {
	c := &chance{state: 12}
	for range 2000 {
		i, n, times, l := c.of(4), 1+c.of(3), 1+c.of(3), c.of(4)
		a, b := c.small(i, n), c.small(n, l)
		alike(t, c, two("seq", a, b), two("split", a, b), two("merge", a, b))

		d, e := c.small(n*times, l), c.small(n, 1)
		alike(t, c, two("split", a, two("par", b, d)), two("seq", a, two("split", wires(n), two("par", b, d))), two("split", a, two("par", two("seq", wires(n), b), two("split", wires(n), d))), two("seq", two("split", a, wires(2*n)), two("par", b, two("split", wires(n), d))))
		plain := withoutShows(a)
		if i > 0 {
			alike(t, c, two("split", plain, two("par", b, d)), two("split", wires(i), two("par", two("seq", plain, b), two("split", plain, d))))
		}
		alike(t, c, two("split", e, wires(times)), two("seq", e, two("split", wire(), wires(times))))

		wide := c.small(i, n*times)
		var sums []api.Block
		for k := range n {
			sums = append(sums, two("seq", apart(n*times, n, k), sumFromLeft(times)))
		}
		added := two("split", wires(n*times), balanced("par", sums...))
		alike(t, c, two("merge", wide, b), two("seq", two("seq", wide, added), b), two("seq", two("merge", wide, wires(n)), b))
	}
}

// P8.4, P5: a rec fulfils its equations: its second Kid makes of the outs what its first Kid hears. What fulfils them is it: from whatever one begins, going round comes to it.
func TestRecLaws(t *testing.T) {
	c := &chance{state: 13}
	tried := 0
	for tried < 2000 {
		ins, outs := c.of(3), 1+c.of(3)
		b := c.rec(1+c.of(4), ins, outs)
		if _, isLoop, err := cause.Around(b); isLoop || err != api.OK {
			continue
		}
		heard, fed, _ := block.Ports(b.Kids[1])
		if fed == 0 {
			continue
		}
		tried++
		const n = 5
		in, l := c.ins(ins, n), c.events(n)
		want, _ := play(t, b, in, l, n)
		back, _ := play(t, b.Kids[1], want[:heard], l, n)
		if got, _ := play(t, b.Kids[0], slices.Concat(back, in), l, n); textOfSignals(got) != textOfSignals(want) {
			t.Fatalf("%s: %s, round %s", dump(b), textOfSignals(want), textOfSignals(got))
		}
		guess := c.ins(fed, n)
		var got [][]api.Q
		for range (n + 1) * (fed + 1) {
			got, _ = play(t, b.Kids[0], slices.Concat(guess, in), l, n)
			guess, _ = play(t, b.Kids[1], got[:heard], l, n)
		}
		if textOfSignals(got) != textOfSignals(want) {
			t.Fatalf("%s: %s, going round comes to %s", dump(b), textOfSignals(want), textOfSignals(got))
		}
	}
}

// P8.4: delays one behind the other are one delay.
func TestDelayLaws(t *testing.T) {
	c := &chance{state: 14}
	for range 2000 {
		m, n := c.of(6), c.of(6)
		alike(t, c, delay(m+n), two("seq", delay(m), delay(n)), two("seq", delay(n), delay(m)))
		alike(t, c, delay(m), two("seq", two("par", wire(), num(c.size(9, 3))), api.Block{Op: "vary", N: m, M: m}), two("seq", two("par", wire(), num(q(int64(m), 1))), api.Block{Op: "vary", M: m + n}))
	}
	ins := [][]api.Q{c.numbers(api.MaxTime)}
	for _, m := range []int{0, 1, 100, 4000, 4095} {
		n := 4095 - m
		if got, want := playText(t, two("seq", delay(m), delay(n)), ins, api.MaxTime), playText(t, delay(4095), ins, api.MaxTime); got != want {
			t.Errorf("delay %d and %d", m, n)
		}
	}
}

// P8.1: a vary whose second in is none gives none, whatever its range is.
func TestVaryByNone(t *testing.T) {
	c := &chance{state: 15}
	for range 200 {
		m, n := c.of(6), c.of(6)
		outs, _ := play(t, two("seq", two("par", wire(), num(api.Q{})), api.Block{Op: "vary", N: m, M: m + n}), c.ins(1, 9), nil, 9)
		if !slices.Equal(outs[0], make([]api.Q, 9)) {
			t.Errorf("vary %d %d: %s", m, m+n, textOf(outs[0]))
		}
	}
}

// P8.5: gate by 1, reset by 0, up 1 and down 1 change nothing; nor do they within one another.
func TestNeutralParts(t *testing.T) {
	c := &chance{state: 16}
	for range 4000 {
		b := c.diagram(1+c.of(5), c.of(4), c.of(4))
		n, _, _ := block.Ports(b)
		behind := func(first api.Q, part api.Block) api.Block {
			if n == 0 {
				return two("seq", num(first), part)
			}
			return two("seq", two("par", num(first), wires(n)), part)
		}
		on, off := among(c, q(1, 1), q(-1, 2), q(api.MaxNum, 1)), among(c, q(0, 1), api.Q{})
		gated, renewed := behind(on, one("gate", b)), behind(off, one("reset", b))
		alike(t, c, b, gated, renewed, turned("up", 1, b), turned("down", 1, b), turned("up", 1, gated), turned("down", 1, renewed), behind(on, one("gate", renewed)), behind(off, one("reset", turned("down", 1, gated))))
	}
}

// P8.5: a gate that is never open runs nothing; a reset that is always on is as at the beginning each time.
func TestGateNeverAndResetAlways(t *testing.T) {
	c := &chance{state: 17}
	for range 2000 {
		ins, outs := 1+c.of(3), 1+c.of(3)
		b := c.diagram(1+c.of(5), ins, outs)
		in := c.ins(ins, 6)
		got, told := play(t, two("seq", two("par", num(among(c, q(0, 1), api.Q{})), wires(ins)), one("gate", b)), in, nil, 6)
		for _, out := range got {
			if textOf(out) != "0 0 0 0 0 0" || len(told) > 0 {
				t.Fatalf("%s, never run: %s, told %v", dump(b), textOfSignals(got), told)
			}
		}
		got, _ = play(t, two("seq", two("par", num(q(1, 1)), wires(ins)), one("reset", b)), in, nil, 6)
		for i := range 6 {
			for k, want := range step(t, fresh(t, b), sample(in, i)...) {
				if got[k][i] != want {
					t.Fatalf("%s, begun anew at %d: %v, want %v", dump(b), i, got[k][i], want)
				}
			}
		}
	}
}

// P8.1: up gives what its Kid gives by itself, if each number comes in so many times; down gives what its Kid gives by itself of each so many, held.
func TestUpIsManySamples(t *testing.T) {
	c := &chance{state: 18}
	for range 2000 {
		ins, outs := c.of(4), 1+c.of(3)
		b := c.diagram(1+c.of(4), ins, outs)
		times := 2 + c.of(4)
		in := c.ins(ins, 4)
		var held [][]api.Q
		for i := range in {
			var l []api.Q
			for n := range 4 {
				l = append(l, slices.Repeat([]api.Q{sample(in, n)[i]}, times)...)
			}
			held = append(held, l)
		}
		all, _ := play(t, b, held, nil, 4*times)
		got, _ := play(t, turned("up", times, b), in, nil, 4)
		down, _ := play(t, turned("down", times, b), held, nil, 4*times)
		slow, _ := play(t, b, in, nil, 4)
		for k := range got {
			for n := range 4 {
				if got[k][n] != all[k][n*times+times-1] {
					t.Fatalf("up %d of %s: %s, want of %s", times, dump(b), textOf(got[k]), textOf(all[k]))
				}
				if down[k][n*times] != slow[k][n] || down[k][n*times+times-1] != slow[k][n] {
					t.Fatalf("down %d of %s: %s, want of %s", times, dump(b), textOf(down[k]), textOf(slow[k]))
				}
			}
		}
	}
}

// P8.5: a run is a beginning of a longer one; what comes out hangs on ins and events up to then alone.
func TestBeginnings(t *testing.T) {
	c := &chance{state: 19}
	for range 5000 {
		b := c.diagram(1+c.of(6), c.of(4), c.of(4))
		ins, _, _ := block.Ports(b)
		n, more := c.of(6), c.of(6)
		in, l := c.ins(ins, n+more), c.events(n+more)
		outs, told := play(t, b, in, l, n+more)
		var other [][]api.Q
		for i := range in {
			other = append(other, append(slices.Clone(in[i][:min(n, len(in[i]))]), c.numbers(max(0, n-len(in[i])))...))
			for k := len(in[i]); k < n; k++ {
				other[i][k] = q(0, 1)
			}
			other[i] = append(other[i], c.numbers(c.of(5))...)
		}
		early := slices.DeleteFunc(slices.Clone(l), func(e api.Event) bool { return e.At >= n })
		shorter, toldShorter := play(t, b, other, early, n)
		longer, toldLonger := play(t, b, other, append(early, api.Event{At: n, Path: "a", Value: c.number()}), n+more)
		for k := range outs {
			if want := outs[k][:n]; !slices.Equal(shorter[k], want) || !slices.Equal(longer[k][:n], want) {
				t.Fatalf("%s: %s; %s; %s", dump(b), textOf(want), textOf(shorter[k]), textOf(longer[k]))
			}
		}
		isLate := func(x api.Told) bool { return x.At >= n }
		want := textOfTold(slices.DeleteFunc(told, isLate))
		if textOfTold(toldShorter) != want || textOfTold(slices.DeleteFunc(toldLonger, isLate)) != want {
			t.Fatalf("%s: told %s; %s", dump(b), want, textOfTold(toldShorter))
		}
	}
}

// P7.2: changing an in at a sample changes no out ahead of that and the least delay, and none to which there is no way.
func TestLeastDelays(t *testing.T) {
	c := &chance{state: 20}
	changed, late := 0, 0
	for range 8000 {
		ins := 1 + c.of(3)
		b := c.diagram(1+c.of(6), ins, 1+c.of(3))
		least, err := cause.Least(b)
		if err != api.OK {
			t.Fatalf("%s: Least: %v", dump(b), err)
		}
		const n = 9
		var in [][]api.Q
		for range ins {
			in = append(in, c.numbers(n))
		}
		outs, _ := play(t, b, in, nil, n)
		i, at := c.of(ins), c.of(n)
		in[i] = slices.Clone(in[i])
		in[i][at] = c.number()
		others, _ := play(t, b, in, nil, n)
		for k := range outs {
			delay := least[k][i]
			for s := range n {
				if outs[k][s] == others[k][s] {
					continue
				}
				changed++
				if delay > 0 {
					late++
				}
				if delay < 0 || s < at+delay {
					t.Fatalf("%s: in %d at %d changes out %d at %d, least delay %d", dump(b), i, at, k, s, delay)
				}
			}
		}
	}
	if changed < 3000 || late < 500 {
		t.Errorf("changed %d, with a delay %d", changed, late)
	}
}
