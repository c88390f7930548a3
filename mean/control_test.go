package mean_test

import (
	"strings"
	"testing"

	"serinette/api"
	"serinette/block"
	"serinette/mean"
	"serinette/ratio"
)

// played is a run: a diagram, what comes in, events, and what comes out and is told.
type played struct{ block, ins, events, outs, told string }

// tells tries runs, for as many samples as are told of the first out.
func tells(t *testing.T, l []played) {
	t.Helper()
	for _, c := range l {
		want := signals(t, c.outs)
		outs, told, err := mean.Play(parse(t, c.block), signals(t, c.ins), events(t, c.events), len(want[0]))
		if got := textOfSignals(outs); got != textOfSignals(want) || err != api.OK {
			t.Errorf("%s of %s, %s: got %s, %v, want %s", c.block, c.ins, c.events, got, err, textOfSignals(want))
		}
		if got := textOfTold(told); got != c.told {
			t.Errorf("%s of %s, %s: told %s, want %s", c.block, c.ins, c.events, got, c.told)
		}
	}
}

// P8.1: a control has its Init, and then what it is set to.
func TestKnobs(t *testing.T) {
	tells(t, []played{
		{`(knob "k" 1 0 2 0)`, "", "", "1 1 1", ""}, {`(knob "k" 1 0 2 0)`, "", "0:k=2", "2 2", ""}, {`(knob "k" 1 0 2 0)`, "", "1:k=3/2 2:k=1/3", "1 3/2 1/3 1/3", ""},
		{`(knob "k" 1 0 2 0)`, "", "1:k=5 2:k=-5", "1 2 0", ""}, {`(knob "k" 1 0 2 0)`, "", "0:k=3/2 1:k=none 2:k=?", "3/2 3/2 3/2", ""}, {`(knob "k" 1 0 2 0)`, "", "0:j=2 0:K=2 0:k/=2", "1 1", ""},
		{`(knob "k" 1/3 0 1 1/4)`, "", "1:k=none 2:k=1/3 3:k=3/8 4:k=1/8", "1/3 1/3 1/4 1/2 0", ""},
		{`(seq (par (knob "k" 1 0 2 0) (knob "k" 1 0 2 0)) add)`, "", "1:k=2", "2 4 4", ""}, {`(par (knob "a" 1 0 2 0) (knob "b" 1 0 2 0))`, "", "1:a=2 2:b=0", "1 2 2 | 1 1 0", ""},
		// Within parts controls are those of all.
		{`(up 2 (seq (knob "k" 1 0 9 0) (rec add (delay 1))))`, "", "1:k=5", "2 12", ""}, {`(down 2 (knob "k" 1 0 9 0))`, "", "1:k=5", "1 1 5", ""}, {`(gate (knob "k" 1 0 9 0))`, "0 1 0 1", "1:k=5 2:k=6", "0 5 5 6", ""}, {`(reset (knob "k" 1 0 9 0))`, "0 0 1 1", "1:k=5", "1 5 5 5", ""},
		{`(par (knob "k" 1 0 9 0) (up 2 (knob "k" 1 0 9 0)))`, "", "1:k=5", "1 5 | 1 5", ""},
	})
}

// P8.1: what setting a control makes of a number.
func TestBring(t *testing.T) {
	for _, row := range [][3]string{
		// Init, Lo, Hi, Step; numbers; and what they are brought to.
		{"1 0 2 0", "0 2 1/3 -1 5 none ? 1073741824 -1073741824", "0 2 1/3 0 2 1 1 2 0"},
		{"1/3 0 1 1/4", "0 1/8 1/3 3/8 5/8 7/8 1 2 -1 none", "0 0 1/4 1/2 1/2 1 1 1 0 1/3"},
		{"0 -3/2 4 1", "-3/2 -1 -2 0 1/4 1 3 13/4 7/2 15/4 4 9 none", "-3/2 -3/2 -3/2 1/2 1/2 1/2 5/2 7/2 7/2 7/2 7/2 7/2 0"},
		// The greatest step lies below Hi.
		{"0 0 1 3/4", "3/8 1/2 1 7/8", "0 3/4 3/4 3/4"}, {"0 0 1 2/3", "1/3 1/2 1 5/6", "0 2/3 2/3 2/3"}, {"0 0 1 2/5", "1 9/10 3/5 1/5", "4/5 4/5 4/5 0"}, {"1 0 2 100", "0 1 2 9 none", "0 0 0 0 1"}, {"1 0 2 2", "1 3/2 2", "0 2 2"},
		{"5 5 5 0", "5 4 6 none", "5 5 5 5"}, {"5 5 5 1", "5 4 6 none", "5 5 5 5"}, {"-1 -2 -1/2 1/2", "-2 -7/4 -5/4 -3/4 0", "-2 -2 -1 -1 -1/2"},
		{"0 -1073741824 1073741824 1", "1/2 3/2 -1/2 1073741824 -1073741824 1073741823", "0 2 0 1073741824 -1073741824 1073741823"}, {"0 0 1073741824 1073741824", "536870912 536870913 536870911", "0 1073741824 0"}, {"0 -1073741824 1073741824 1073741824", "0 1 536870913 -1073741824", "0 0 1073741824 -1073741824"},
		{"0 0 1 1/1073741824", "1/1073741823 1/1073741824 1/536870912 1", "1/1073741824 1/1073741824 1/536870912 1"}, {"0 0 1/2 1073741824/1073741823", "1/2 0", "0 0"}, {"0 -1/32768 0 1073741823/32768", "0 -1/32768", "-1/32768 -1/32768"}, {"0 0 1/1073741824 0", "1 1/1073741824", "1/1073741824 1/1073741824"},
	} {
		k := numbers(t, row[0])
		var got []api.Q
		for _, n := range numbers(t, row[1]) {
			got = append(got, mean.Bring(api.Knob{Path: "k", Init: k[0], Lo: k[1], Hi: k[2], Step: k[3]}, n))
		}
		if textOf(got) != textOf(numbers(t, row[2])) {
			t.Errorf("%s, set to %s: got %s, want %s", row[0], row[1], textOf(got), row[2])
		}
	}
}

// P8.1: of a control whose numbers are not layer 5's all is none; the Path and Soft are not asked.
func TestBringOfNoControl(t *testing.T) {
	good := api.Knob{Init: q(1, 1), Lo: q(0, 1), Hi: q(2, 1), Step: q(1, 4)}
	for _, path := range []string{"", "a", "a b", "\"", strings.Repeat("a", 41)} {
		for _, soft := range []bool{false, true} {
			k := good
			k.Path, k.Soft = path, soft
			if got := mean.Bring(k, q(1, 3)); got != q(1, 4) {
				t.Errorf("%v: got %v", k, got)
			}
			if got := mean.Bring(k, api.Q{}); got != q(1, 1) {
				t.Errorf("%v to none: got %v", k, got)
			}
		}
	}
	for what, change := range map[string]func(k *api.Knob){
		"Init below Lo": func(k *api.Knob) { k.Init = q(-1, 1) }, "Init above Hi": func(k *api.Knob) { k.Init = q(3, 1) }, "Lo above Hi": func(k *api.Knob) { k.Lo = q(3, 1) }, "a Step below 0": func(k *api.Knob) { k.Step = q(-1, 4) },
		"no Init": func(k *api.Knob) { k.Init = api.Q{} }, "no Lo": func(k *api.Knob) { k.Lo = api.Q{} }, "no Hi": func(k *api.Knob) { k.Hi = api.Q{} }, "no Step": func(k *api.Knob) { k.Step = api.Q{} },
		"an odd Init": func(k *api.Knob) { k.Init = noNumber() }, "an odd Lo": func(k *api.Knob) { k.Lo = api.Q{D: 2} }, "an odd Hi": func(k *api.Knob) { k.Hi = api.Q{N: 4, D: 2} }, "an odd Step": func(k *api.Knob) { k.Step = api.Q{N: 1, D: -4} },
		"steps too fine": func(k *api.Knob) { k.Hi, k.Step = q(1073741824, 1), q(1, 2) }, "Lo and Step too fine": func(k *api.Knob) { k.Lo, k.Step = q(-1, 65536), q(1, 65535) },
	} {
		k := good
		change(&k)
		for _, n := range numbers(t, "0 1 2 -9 9 none ?") {
			if got := mean.Bring(k, n); got != (api.Q{}) {
				t.Errorf("%s: %v to %v: got %v", what, k, n, got)
			}
		}
	}
	if got := mean.Bring(api.Knob{}, q(1, 1)); got != (api.Q{}) {
		t.Errorf("the zero Knob: got %v", got)
	}
}

// size draws a number, of any size up to a bound for numerator and denominator.
func (c *chance) size(n, d int) api.Q { return q(int64(c.of(2*n+1)-n), int64(1+c.of(d))) }

// knob draws the numbers of a control that layer 5 takes.
func (c *chance) knob() api.Knob {
	for {
		n, d := among(c, 1, 9, 1000, 1<<20, api.MaxNum), among(c, 1, 1, 2, 12, 1000, 1<<15, api.MaxNum)
		k := api.Knob{Path: "k", Init: c.size(n, d), Lo: c.size(n, d), Hi: c.size(n, d), Step: ratio.Abs(among(c, c.size(n, d), c.size(9, 9), c.size(api.MaxNum, 1), q(1, int64(d))))}
		if c.of(4) == 0 {
			k.Init = k.Lo
		}
		if _, _, err := block.Ports(block.Join("seq", api.Block{Op: "knob", Name: "k", Nums: []api.Q{k.Init, k.Lo, k.Hi, k.Step}}, wire())); err == api.OK {
			return k
		}
	}
}

// P8.1: drawn controls, with steps of all sizes, as the chapter's words say.
func TestBringByWords(t *testing.T) {
	c := &chance{state: 2}
	steps, isLess := 0, 0
	for range 30000 {
		k := c.knob()
		values := []api.Q{k.Lo, k.Hi, k.Init, c.size(9, 9), c.size(api.MaxNum, api.MaxNum), ratio.Div(ratio.Add(k.Lo, k.Hi), q(2, 1)), ratio.Add(k.Lo, k.Step), ratio.Add(k.Lo, ratio.Div(k.Step, q(2, 1))), ratio.Add(k.Lo, ratio.Mul(k.Step, q(3, 2))), ratio.Add(k.Lo, ratio.Mul(k.Step, q(5, 2)))}
		for _, n := range values {
			if !ratio.Is(n) {
				continue
			}
			got, want := mean.Bring(k, n), bringByWords(k, n)
			if got != want {
				t.Fatalf("%v to %v: got %v, want %v", k, n, got, want)
			}
			if k.Step.N > 0 && got != k.Lo {
				steps++
			}
		}
		if k.Step.N > 0 && mean.Bring(k, k.Hi) != k.Hi {
			isLess++
		}
	}
	if steps < 10000 || isLess < 5000 {
		t.Errorf("on a step above Lo %d, with a greatest step below Hi %d", steps, isLess)
	}
}

// P8.1: Set and Get of a player, from the next sample on.
func TestSetAndGet(t *testing.T) {
	p := fresh(t, parse(t, `(par (up 2 (knob "k" 1 0 2 1/2)) (par (knob "k" 1 0 2 1/2) (seq (knob "other/one" 3 0 9 0) (show "s"))))`))
	for _, c := range []struct {
		path, to string
		err      api.Errno
		is, outs string
	}{
		{"", "", api.OK, "1", "1 1 3"}, {"k", "2", api.OK, "2", "2 2 3"}, {"k", "7/10", api.OK, "1/2", "1/2 1/2 3"}, {"k", "none", api.OK, "1/2", "1/2 1/2 3"}, {"k", "?", api.OK, "1/2", "1/2 1/2 3"}, {"k", "-9", api.OK, "0", "0 0 3"}, {"k", "9", api.OK, "2", "2 2 3"},
		{"j", "1", api.ErrNone, "2", "2 2 3"}, {"s", "1", api.ErrNone, "2", "2 2 3"}, {"j", "none", api.ErrNone, "2", "2 2 3"}, {"other", "1", api.ErrNone, "2", "2 2 3"}, {"other/one", "1", api.OK, "2", "2 2 1"}, {"other/one", "0", api.OK, "2", "2 2 0"},
	} {
		if c.path != "" || c.to != "" {
			if err := p.Set(c.path, numbers(t, c.to)[0]); err != c.err {
				t.Errorf("Set(%q, %s): %v", c.path, c.to, err)
			}
		}
		if got, err := p.Get("k"); textOfNumber(got) != c.is || err != api.OK {
			t.Errorf("behind Set(%q, %s): Get: %v, %v", c.path, c.to, got, err)
		}
		if got := textOf(step(t, p)); got != c.outs {
			t.Errorf("behind Set(%q, %s): %s", c.path, c.to, got)
		}
	}
	for _, path := range []string{"", "j", "s", "K", "other", "k "} {
		if got, err := p.Get(path); got != (api.Q{}) || err != api.ErrNone {
			t.Errorf("Get(%q): %v, %v", path, got, err)
		}
		if err := p.Set(path, q(1, 1)); err != api.ErrNone {
			t.Errorf("Set(%q): %v", path, err)
		}
	}
}

// P8.1: what a show got last; nothing, if there is none, or it has not run yet.
func TestToldOfPlayer(t *testing.T) {
	p := fresh(t, parse(t, `(par (show "a") (gate (par (show "g") (down 2 (show "d")))))`))
	for i, c := range []struct{ ins, a, g, d string }{
		{"", "-", "-", "-"}, {"5 0 6 7", "5", "-", "-"}, {"none 1 7 8", "none", "7", "8"}, {"? 1 none 9", "none", "none", "8"}, {"1 0 4 5", "1", "none", "8"}, {"2 1 4 5", "2", "4", "5"},
	} {
		if c.ins != "" {
			step(t, p, numbers(t, c.ins)...)
		}
		for path, want := range map[string]string{"a": c.a, "g": c.g, "d": c.d, "": "-", "b": "-", "A": "-"} {
			got, err := p.Told(path)
			text := textOfNumber(got)
			if err == api.ErrNone && got == (api.Q{}) {
				text = "-"
			}
			if text != want || err != api.OK && err != api.ErrNone {
				t.Errorf("%d: Told(%q): %v, %v, want %s", i, path, got, err, want)
			}
		}
	}
}

// P8.1: what a show in a reset told stays told, until it runs again.
func TestToldInReset(t *testing.T) {
	p := fresh(t, parse(t, `(reset (gate (show "a")))`))
	for _, c := range [][2]string{{"0 1 5", "5"}, {"0 0 6", "5"}, {"1 0 7", "5"}, {"1 1 8", "8"}} {
		step(t, p, numbers(t, c[0])...)
		if got, err := p.Told("a"); textOfNumber(got) != c[1] || err != api.OK {
			t.Errorf("behind %s: %v, %v", c[0], got, err)
		}
	}
}
