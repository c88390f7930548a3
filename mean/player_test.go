package mean_test

import (
	"fmt"
	"math"
	"slices"
	"testing"

	"serinette/api"
	"serinette/block"
	"serinette/cause"
	"serinette/mean"
)

// refusals are diagrams that are refused, by their errors.
func refusals() map[api.Errno][]api.Block {
	knob := func(init int64) api.Block {
		return api.Block{Op: "knob", Name: "a", Nums: []api.Q{q(init, 1), q(0, 1), q(9, 1), q(0, 1)}}
	}
	show := api.Block{Op: "show", Name: "a"}
	loop, misfit := two("rec", leaf("add"), wire()), two("seq", leaf("cut"), wire())
	invalid, twice := api.Block{Op: "delay", N: -1}, two("par", show, show)
	large := balanced("seq", copies(301, wire())...)
	return map[api.Errno][]api.Block{
		api.ErrArg:   {{}, invalid, {Op: "what"}, {Op: "delay", N: api.MaxDelay + 1}, {Op: "delay", N: math.MaxInt}, {Op: "num"}, num(noNumber()), {Op: "show"}, {Op: "show", Name: "a b"}, {Op: "knob", Nums: []api.Q{q(1, 1), q(0, 1), q(9, 1), q(0, 1)}}, {Op: "knob", Name: "a"}, {Op: "seq", Kids: copies(1, wire())}, {Op: "rec"}, turned("up", 0, wire()), turned("down", api.MaxTurns+1, wire()), two("seq", misfit, invalid), two("par", loop, invalid), two("seq", large, invalid), two("par", twice, invalid)},
		api.ErrLimit: {large, two("seq", misfit, large), two("par", loop, large), two("par", twice, large), block.Chain(copies(61, wire())), wires(65), two("par", wires(65), misfit)},
		api.ErrPorts: {misfit, two("par", loop, misfit), two("par", twice, misfit), two("rec", wire(), wires(2)), two("merge", wires(3), wires(2)), two("par", misfit, wires(65))},
		api.ErrTwice: {twice, two("par", loop, twice), two("par", knob(1), knob(2)), two("seq", knob(1), show)},
		api.ErrLoop:  {loop, two("par", wire(), loop), turned("down", 2, loop), one("gate", loop), two("rec", turned("up", 2, delay(1)), wire()), two("rec", api.Block{Op: "vary", M: 9}, wire()), two("rec", wire(), delay(0)), two("rec", one("gate", delay(1)), wire())},
	}
}

// P8.1: New has the errors of Ports, and then ErrLoop.
func TestNewRefuses(t *testing.T) {
	for want, l := range refusals() {
		for _, b := range l {
			if p, err := mean.New(b); p != nil || err != want {
				t.Errorf("%s: New: %v, %v, want %v", dump(b), p != nil, err, want)
			}
		}
	}
}

// P5: a diagram is refused for a loop exactly if there is a way around without a delay, else it runs.
func TestLoopsAreRefused(t *testing.T) {
	c := &chance{state: 3}
	loops, others := 0, 0
	for range 20000 {
		b := c.block(1+c.of(6), c.of(4), c.of(4))
		_, isLoop, err := cause.Around(b)
		if isLoop {
			err = api.ErrLoop
			loops++
		}
		p, got := mean.New(b)
		if got != err || (p == nil) != (err != api.OK) {
			t.Fatalf("%s: New: %v, want %v", dump(b), got, err)
		}
		if err != api.OK {
			continue
		}
		delays, _ := cause.Loops(b)
		if slices.ContainsFunc(delays, func(n int) bool { return n > 0 }) {
			others++
		}
		ins, outs, _ := block.Ports(b)
		if got := step(t, p, c.numbers(ins)...); len(got) != outs {
			t.Fatalf("%s: Step: %d outs", dump(b), len(got))
		}
	}
	if loops < 1000 || others < 2000 {
		t.Errorf("refused %d, with other loops %d", loops, others)
	}
}

// P8.1: Step takes as many ins as there are, for at most MaxTime samples; Time counts them. What is refused changes nothing.
func TestStepAndTime(t *testing.T) {
	p := fresh(t, parse(t, "(par (rec add (delay 1)) wire)"))
	for n := range api.MaxTime {
		if got := p.Time(); got != n {
			t.Fatalf("Time: %d, want %d", got, n)
		}
		for _, ins := range []string{"", "1", "1 1 1"} {
			if outs, err := p.Step(numbers(t, ins)); len(outs) != 0 || err != api.ErrArg {
				t.Fatalf("Step(%s) at %d: %v, %v", ins, n, outs, err)
			}
		}
		if outs := step(t, p, q(1, 1), q(int64(n), 1)); !slices.Equal(outs, []api.Q{q(int64(n)+1, 1), q(int64(n), 1)}) {
			t.Fatalf("at %d: %s", n, textOf(outs))
		}
	}
	cells := p.Cells()
	for range 2 {
		outs, err := p.Step(numbers(t, "1 1"))
		if len(outs) != 0 || err != api.ErrArg || p.Time() != api.MaxTime {
			t.Errorf("Step behind MaxTime: %v, %v, Time %d", outs, err, p.Time())
		}
	}
	if got := p.Cells(); textOfCells(got) != textOfCells(cells) {
		t.Errorf("Step behind MaxTime: cells %s, then %s", textOfCells(cells), textOfCells(got))
	}
}

// P8.1: diagrams without ins or outs are run as others.
func TestStepWithoutPorts(t *testing.T) {
	p := fresh(t, parse(t, "(seq (wave 1 2) cut)"))
	for n := range 3 {
		if outs := step(t, p); len(outs) != 0 || p.Time() != n+1 {
			t.Errorf("Step: %v, Time %d", outs, p.Time())
		}
	}
	if _, err := p.Step(numbers(t, "1")); err != api.ErrArg {
		t.Errorf("Step with an in: %v", err)
	}
}

// R7: of a nil Player and of the zero one methods return ErrNil, or nothing.
func TestNilPlayers(t *testing.T) {
	for _, p := range []*mean.Player{nil, {}} {
		if outs, err := p.Step(nil); len(outs) != 0 || err != api.ErrNil {
			t.Errorf("Step: %v, %v", outs, err)
		}
		if _, err := p.Step(numbers(t, "1")); err != api.ErrNil {
			t.Errorf("Step: %v", err)
		}
		if err := p.Set("a", q(1, 1)); err != api.ErrNil {
			t.Errorf("Set: %v", err)
		}
		if got, err := p.Get("a"); got != (api.Q{}) || err != api.ErrNil {
			t.Errorf("Get: %v, %v", got, err)
		}
		if got, err := p.Told("a"); got != (api.Q{}) || err != api.ErrNil {
			t.Errorf("Told: %v, %v", got, err)
		}
		if got := p.Time(); got != 0 {
			t.Errorf("Time: %d", got)
		}
		if got := p.Cells(); len(got) != 0 {
			t.Errorf("Cells: %v", got)
		}
		if err := p.Load(nil); err != api.ErrNil {
			t.Errorf("Load: %v", err)
		}
		if err := p.Load([]mean.Cell{{Op: "delay"}}); err != api.ErrNil {
			t.Errorf("Load: %v", err)
		}
		if got := p.Copy(); got != nil {
			t.Errorf("Copy: %v", got)
		}
	}
}

// goingOn runs a player for some samples, and returns all that is told of it then.
func goingOn(t *testing.T, p *mean.Player, c *chance, b api.Block, n int) (all []string) {
	t.Helper()
	ins, _, _ := block.Ports(b)
	shows, _ := block.Shows(b)
	for range n {
		if c.of(3) == 0 {
			p.Set(among(c, "a", "b", "c/d"), c.number())
		}
		all = append(all, textOf(step(t, p, c.numbers(ins)...)), textOfCells(p.Cells()))
		for _, path := range append(shows, "none") {
			got, err := p.Told(path)
			all = append(all, fmt.Sprint(textOfNumber(got), err))
		}
	}
	return append(all, fmt.Sprint(p.Time()))
}

// P8.1, R7: a Copy goes on as what it was made from does, and by itself.
func TestCopy(t *testing.T) {
	c := &chance{state: 4}
	for range 4000 {
		b := c.diagram(1+c.of(6), c.of(3), c.of(3))
		p := fresh(t, b)
		goingOn(t, p, c, b, c.of(6))
		state := c.state
		want := goingOn(t, p.Copy(), &chance{state: state}, b, 5)
		// What the first copy did is not seen in p, nor what p does in a copy.
		second, third := p.Copy(), p.Copy()
		goingOn(t, third, c, b, 3)
		if got := goingOn(t, p, &chance{state: state}, b, 5); !slices.Equal(got, want) {
			t.Fatalf("%s: %v, of the copy %v", dump(b), got, want)
		}
		if got := goingOn(t, second, &chance{state: state}, b, 5); !slices.Equal(got, want) {
			t.Fatalf("%s: of the second copy %v, want %v", dump(b), got, want)
		}
	}
}

// R4: a player keeps nothing of the diagram that it was given, and changes nothing of it.
func TestDiagramIsNotKept(t *testing.T) {
	c := &chance{state: 5}
	for range 3000 {
		b := c.diagram(1+c.of(6), c.of(3), c.of(3))
		other, _ := block.At(b, nil)
		p, want := fresh(t, other), fresh(t, b)
		goingOn(t, p, &chance{state: 1}, b, 3)
		goingOn(t, want, &chance{state: 1}, b, 3)
		if !block.Same(b, other) {
			t.Fatalf("%s: changed to %s", dump(b), dump(other))
		}
		scramble(&other)
		if got, want := goingOn(t, p, &chance{state: 2}, b, 4), goingOn(t, want, &chance{state: 2}, b, 4); !slices.Equal(got, want) {
			t.Fatalf("%s: %v, when the diagram was changed, want %v", dump(b), got, want)
		}
		if got, want := goingOn(t, p.Copy(), &chance{state: 3}, b, 4), goingOn(t, want.Copy(), &chance{state: 3}, b, 4); !slices.Equal(got, want) {
			t.Fatalf("%s: of a copy %v, when the diagram was changed, want %v", dump(b), got, want)
		}
	}
}

// scramble changes all memory of a diagram.
func scramble(b *api.Block) {
	for i := range b.Nums {
		b.Nums[i] = q(-77, 1)
	}
	for i := range b.Kids {
		scramble(&b.Kids[i])
		b.Kids[i] = api.Block{Op: "cut", N: 7}
	}
}

// R4: ins are neither changed nor kept, and outs are new memory.
func TestStepsShareNoMemory(t *testing.T) {
	for _, text := range []string{"(par wire wire)", "(par (delay 1) (delay 2))", "(up 2 (par wire (delay 1)))", "(down 2 (par wire wire))", "(gate (par (num 1) wire))", "(par (store 1 2 3) (wave 1 2))"} {
		b := parse(t, text)
		n, _, _ := block.Ports(b)
		p, want := fresh(t, b), fresh(t, b)
		c, ins := &chance{state: 6}, make([]api.Q, n)
		for i := range 9 {
			copy(ins, c.numbers(n))
			ins[0] = noNumber()
			before := slices.Clone(ins)
			outs, other := step(t, p, ins...), step(t, want, before...)
			if !slices.Equal(ins, before) || !slices.Equal(outs, other) {
				t.Errorf("%s at %d: ins %v, then %v; outs %v, want %v", text, i, before, ins, outs, other)
			}
			for k := range outs {
				outs[k] = q(55, 1)
			}
			for k := range ins {
				ins[k] = q(44, 1)
			}
		}
	}
}

// P8.1: a player that is led by hand gives and tells what Play does.
func TestPlayerAsPlay(t *testing.T) {
	c := &chance{state: 7}
	for range 6000 {
		b := c.diagram(1+c.of(6), c.of(4), c.of(4))
		n, _, _ := block.Ports(b)
		shows, _ := block.Shows(b)
		ins, l := c.ins(n, 8), c.events(8)
		outs, told := play(t, b, ins, l, 8)
		p, last := fresh(t, b), map[string]api.Q{}
		for i := range 8 {
			for _, e := range l {
				if max(e.At, 0) == i {
					p.Set(e.Path, e.Value)
				}
			}
			var want []api.Q
			for _, out := range outs {
				want = append(want, out[i])
			}
			if got := step(t, p, sample(ins, i)...); textOf(got) != textOf(want) {
				t.Fatalf("%s at %d: %s, want %s", dump(b), i, textOf(got), textOf(want))
			}
			for _, x := range told {
				if x.At == i {
					last[x.Path] = x.Value
				}
			}
			for _, path := range shows {
				want, hasRun := last[path]
				if got, err := p.Told(path); got != want || (err == api.OK) != hasRun {
					t.Fatalf("%s at %d: Told(%s): %v, %v, want %v", dump(b), i, path, got, err, want)
				}
			}
		}
	}
}
