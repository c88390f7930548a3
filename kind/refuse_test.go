package kind_test

import (
	"math"
	"slices"
	"strings"
	"testing"

	"serinette/api"
	"serinette/block"
	"serinette/kind"
)

// wide returns so many kinds.
func wide(n int) []api.Kind { return slices.Repeat([]api.Kind{kind.Wide()}, n) }

// P9.1: errors of Ports, then a loop without a delay, whatever the number of ins; with an error nothing is told.
func TestRefused(t *testing.T) {
	deep := leaf("wire")
	for range api.MaxNest {
		deep = one("up", 1, deep)
	}
	loop := parse("(rec add wire)")
	for _, c := range []struct {
		b    api.Block
		want api.Errno
	}{
		{two("rec", leaf("add"), leaf("what")), api.ErrArg}, {two("par", loop, api.Block{Op: "up"}), api.ErrArg}, {two("seq", leaf("cut"), api.Block{Op: "delay", N: -1}), api.ErrArg},
		{deep, api.ErrLimit}, {many(api.MaxPorts+1, leaf("wire")), api.ErrLimit}, {two("par", loop, deep), api.ErrLimit},
		{parse("(seq cut wire)"), api.ErrPorts}, {two("par", loop, parse("(seq cut wire)")), api.ErrPorts}, {parse(`(par (show "a") (show "a"))`), api.ErrTwice}, {two("par", loop, parse(`(par (show "a") (show "a"))`)), api.ErrTwice},
		{loop, api.ErrLoop}, {one("gate", 0, one("down", 2, loop)), api.ErrLoop}, {parse("(rec (up 2 (delay 1)) wire)"), api.ErrLoop},
	} {
		for n := range 4 {
			if outs, err := kind.Tell(c.b, wide(n)); len(outs) > 0 || err != c.want {
				t.Errorf("Tell of %s, %d ins: got %v, %v, want %v", dump(c.b), n, outs, err, c.want)
			}
			if places, err := kind.Whence(c.b, wide(n)); len(places) > 0 || err != c.want {
				t.Errorf("Whence of %s, %d ins: got %v, %v, want %v", dump(c.b), n, places, err, c.want)
			}
		}
		if n, err := kind.Keeps(c.b); n != 0 || err != c.want {
			t.Errorf("Keeps of %s: got %v, %v, want %v", dump(c.b), n, err, c.want)
		}
	}
}

// P9.1: as many kinds as ins.
func TestNumberOfIns(t *testing.T) {
	for text, ins := range map[string]int{"(num 1)": 0, "wire": 1, "add": 2, "(table none)": 1, "(rec add (delay 1))": 1, "(gate wire)": 2, "(par cut pick)": 4} {
		for n := range 6 {
			want := api.ErrArg
			if n == ins {
				want = api.OK
			}
			outs, err := kind.Tell(parse(text), wide(n))
			if err != want || len(outs) > 0 != (want == api.OK) {
				t.Errorf("Tell of %s, %d ins: got %v, %v", text, n, outs, err)
			}
			if places, err := kind.Whence(parse(text), wide(n)); err != want || want != api.OK && len(places) > 0 {
				t.Errorf("Whence of %s, %d ins: got %v, %v", text, n, places, err)
			}
		}
	}
}

// P9.1: what is no kind counts as the widest: a span that is not valid as All, another rate as sample.
func TestCountedKinds(t *testing.T) {
	if got := textOf(wide(1)); got != "[*,*]/0 none sample" {
		t.Errorf("Wide: %s", got)
	}
	good := spanOf("[0,1]/2")
	for _, s := range []api.Span{{Lo: q(1, 1), Hi: q(0, 1), Den: 1}, {Lo: q(0, 1), Hi: q(1, 1), Den: -1}, {Lo: q(0, 1), Hi: q(1, 1), Den: api.MaxNum + 1}, {Lo: api.Q{N: 2, D: 4}, Hi: q(1, 1), Den: 2}, {Lo: q(0, 1), Hi: api.Q{N: 1}, Den: 2}, {Empty: true, Den: 1}, {Empty: true, Lo: q(0, 1)}} {
		bad := api.Kind{Span: s, Rate: "const"}
		for _, text := range []string{"wire", "(delay 0)", `(show "a")`, "(vary 0 0)"} {
			b := parse(text)
			ins := []api.Kind{bad, {Span: good, Rate: "const"}}[:portsOf(b)]
			if got := textOf(tell(t, b, ins)); got != "[*,*]/0 none const" {
				t.Errorf("%s of %v: got %s", text, s, got)
			}
		}
		// So it may be none, which then comes from there.
		if places := whence(t, leaf("div"), []api.Kind{{Span: good}, bad}); len(places) > 0 {
			t.Errorf("div by %v: none from %v", s, places)
		}
	}
	for _, rate := range strings.Split("|Const|constant|samples|none", "|") {
		if got := textOf(tell(t, leaf("add"), []api.Kind{{Span: good, Rate: "control"}, {Span: good, Rate: rate}})); got != "[0,2]/2 sample" {
			t.Errorf("rate %q: got %s", rate, got)
		}
	}
	// Open ends alone are a valid span, in which none is not.
	if got := textOf(tell(t, leaf("wire"), []api.Kind{{Rate: "const"}})); got != "[*,*]/0 const" {
		t.Errorf("wire of open ends: got %s", got)
	}
}

// raw returns blocks of any form.
func raw() []api.Block {
	l := []api.Block{
		{}, {Op: "rec"}, {Op: "rec", Kids: make([]api.Block, 1)}, {Op: "gate", Kids: make([]api.Block, 2)}, {Op: "rec", Kids: []api.Block{leaf("add"), delay(1), delay(1)}}, {Op: "delay", N: math.MinInt}, {Op: "delay", N: math.MaxInt}, {Op: "vary", N: 5, M: 4}, {Op: "vary", M: math.MaxInt}, {Op: "table"}, {Op: "wave", Nums: []api.Q{{N: 2, D: 4}}}, {Op: "store", Nums: make([]api.Q, api.MaxTable+1)}, {Op: "num"}, {Op: "num", Nums: make([]api.Q, 2)},
		{Op: "knob", Name: "k", Nums: make([]api.Q, 4)}, {Op: "knob", Name: "k", Nums: []api.Q{q(1, 1)}}, {Op: "fit"}, one("up", 0, leaf("wire")), one("down", math.MaxInt, leaf("wire")), one("up", -1, leaf("wire")), one("gate", 1, leaf("wire")),
		one("up", 1, two("par", leaf("what"), leaf("wire"))), around(100, leaf("wire")), many(20000, leaf("wire")), {Op: "par", Kids: make([]api.Block, 100000)},
	}
	deep := leaf("wire")
	for range 65535 {
		deep = one("up", 1, deep)
	}
	return append(l, deep)
}

// P9.1, R1: blocks of any form have the errors of Ports, whatever the ins.
func TestRaw(t *testing.T) {
	for _, b := range raw() {
		_, _, want := block.Ports(b)
		for _, ins := range [][]api.Kind{nil, make([]api.Kind, 1), make([]api.Kind, 2), make([]api.Kind, 100000)} {
			outs, errOuts := kind.Tell(b, ins)
			places, errPlaces := kind.Whence(b, ins)
			n, errKeeps := kind.Keeps(b)
			if want == api.OK || errOuts != want || errPlaces != want || errKeeps != want || len(outs)+len(places)+n > 0 {
				t.Errorf("%.100s: Tell %v, Whence %v, Keeps %v, want %v", dump(b), errOuts, errPlaces, errKeeps, want)
			}
		}
	}
}

// copied returns a block that shares no memory with b.
func copied(b api.Block) api.Block {
	b.Nums, b.Kids = slices.Clone(b.Nums), slices.Clone(b.Kids)
	for i, kid := range b.Kids {
		b.Kids[i] = copied(kid)
	}
	return b
}

// R4: arguments stay as they are, equal calls answer alike, and results are new memory.
func TestArgumentsStay(t *testing.T) {
	c := &chance{state: 41}
	for range 2000 {
		b := c.any()
		ins := c.kinds(portsOf(b))
		for i := range ins {
			if c.of(4) == 0 {
				ins[i] = among(c, api.Kind{}, api.Kind{Span: api.Span{Den: -1}, Rate: "const"}, api.Kind{Span: api.Span{Lo: q(1, 1), Hi: q(0, 1)}, Rate: "what"})
			}
		}
		before, insBefore := copied(b), slices.Clone(ins)
		outs, places := tell(t, b, ins), whence(t, b, ins)
		want, wantPlaces := textOf(outs), textOfPlaces(places)
		for i := range outs {
			outs[i] = kind.Wide()
		}
		for i := range places {
			for k := range places[i] {
				places[i][k] = 100*i + k
			}
			_ = append(places[i], -1)
		}
		for i := range places {
			for k, n := range places[i] {
				if n != 100*i+k {
					t.Fatalf("%s: places share memory: %v", dump(b), places)
				}
			}
		}
		if !block.Same(b, before) || !slices.Equal(ins, insBefore) {
			t.Fatalf("%s of %s: changed to %s of %s", dump(before), textOf(insBefore), dump(b), textOf(ins))
		}
		if got, gotPlaces := textOf(tell(t, b, ins)), textOfPlaces(whence(t, b, ins)); got != want || gotPlaces != wantPlaces {
			t.Fatalf("%s of %s: told %s, %s, then %s, %s", dump(b), textOf(ins), want, wantPlaces, got, gotPlaces)
		}
	}
}
