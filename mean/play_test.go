package mean_test

import (
	"math"
	"slices"
	"testing"

	"serinette/api"
	"serinette/block"
	"serinette/mean"
)

// P8.3: the errors of New come ahead of those of the arguments.
func TestPlayRefuses(t *testing.T) {
	for want, l := range refusals() {
		for _, b := range l {
			for _, n := range []int{0, 3, -1, api.MaxTime + 1} {
				for _, ins := range [][][]api.Q{nil, make([][]api.Q, 1), make([][]api.Q, 70)} {
					if outs, told, err := mean.Play(b, ins, events(t, "0:a=1"), n); outs != nil || told != nil || err != want {
						t.Errorf("%s: Play(%d ins, %d): %v, %v, %v, want %v", dump(b), len(ins), n, outs, told, err, want)
					}
				}
			}
		}
	}
	for _, c := range []struct {
		block  string
		ins, n int
		want   api.Errno
	}{
		{"add", 2, 0, api.OK}, {"add", 2, 1, api.OK}, {"add", 2, api.MaxTime, api.OK}, {"add", 2, api.MaxTime + 1, api.ErrArg}, {"add", 2, -1, api.ErrArg}, {"add", 2, math.MaxInt, api.ErrArg}, {"add", 2, math.MinInt, api.ErrArg}, {"add", 1, 3, api.ErrArg}, {"add", 3, 3, api.ErrArg}, {"add", 0, 3, api.ErrArg}, {"add", 3, 0, api.ErrArg}, {"add", 1, -1, api.ErrArg},
		{"(wave 1)", 0, 3, api.OK}, {"(wave 1)", 1, 3, api.ErrArg}, {"(wave 1)", 0, api.MaxTime + 1, api.ErrArg}, {"cut", 1, 3, api.OK}, {"cut", 1, -1, api.ErrArg}, {"cut", 2, 3, api.ErrArg},
	} {
		outs, told, err := mean.Play(parse(t, c.block), make([][]api.Q, c.ins), nil, c.n)
		if err != c.want || len(told) != 0 || err != api.OK && len(outs) != 0 {
			t.Errorf("Play(%s, %d ins, %d): %d outs, %v, %v", c.block, c.ins, c.n, len(outs), told, err)
		}
		if _, wide, _ := block.Ports(parse(t, c.block)); err == api.OK && (len(outs) != wide || wide > 0 && len(outs[0]) != c.n) {
			t.Errorf("Play(%s, %d ins, %d): %d outs", c.block, c.ins, c.n, len(outs))
		}
	}
}

// P8.3, R9: lists of ins that are too short go on with 0; what lies behind the end is passed over.
func TestPlayIns(t *testing.T) {
	for _, row := range [][3]string{
		{"wire", "1 2", "1 2 0 0"}, {"wire", "1 2 3 4 5 6", "1 2 3 4"}, {"add", "1 | 5 6", "6 6 0 0"}, {"add", " | 5 6 7 8 9", "5 6 7 8"}, {"(par neg wire)", " | ", "0 0 0 0 | 0 0 0 0"}, {"(gate wire)", "1 1 1 1 | 5", "5 0 0 0"}, {"(reset (rec add (delay 1)))", "0 0 0 1 | 1 1 1", "1 2 3 0"}, {"(delay 2)", "1 none ?", "0 0 1 none"},
	} {
		if got := playText(t, parse(t, row[0]), signals(t, row[1]), 4); got != row[2] {
			t.Errorf("%s of %s: %s, want %s", row[0], row[1], got, row[2])
		}
	}
}

// P8.3: events are set ahead of their sample, those of one sample in the order of the list.
func TestPlayEvents(t *testing.T) {
	const k = `(knob "k" 1 0 9 0)`
	tells(t, []played{
		{k, "", "2:k=3 1:k=2", "1 2 3 3", ""}, {k, "", "1:k=2 1:k=3", "1 3 3", ""}, {k, "", "1:k=3 0:k=5 1:k=2 0:k=4", "4 2 2", ""}, {k, "", "0:k=0", "0 0", ""},
		{k, "", "-1:k=2", "2 2", ""}, {k, "", "0:k=3 -5:k=2", "2 2", ""}, {k, "", "-5:k=2 0:k=3", "3 3", ""}, {k, "", "-1:k=2 -5:k=3", "3 3", ""}, {k, "", "-5:k=3 -1:k=2 1:k=7", "2 7", ""}, {k, "", "-9223372036854775808:k=2", "2", ""},
		{k, "", "3:k=2 9:k=4 9223372036854775807:k=5", "1 1 1", ""}, {k, "", "2:k=2", "1 1 2", ""}, {k, "", "1:j=2 1:k=4 1:=3", "1 4", ""}, {k, "", "1:k=none 2:k=?", "1 1 1", ""}, {k, "", "1:k=3 1:k=none", "1 3", ""}, {k, "", "1:k=99 2:k=-1", "1 9 0", ""},
		{`(par (knob "a" 0 0 9 0) (par (knob "b" 0 0 9 0) (knob "a" 0 0 9 0)))`, "", "2:a=3 1:b=2 1:a=1", "0 1 3 | 0 2 2 | 0 1 3", ""},
	})
}

// P8.3: what the shows told, behind each sample, ascending by path.
func TestPlayTells(t *testing.T) {
	tells(t, []played{
		{`(show "s")`, "1 none ?", "", "1 none none", "0:s=1 1:s=none 2:s=none"}, {`(par (show "b") (show "a"))`, "1 2 | 3 4", "", "1 2 | 3 4", "0:a=3 0:b=1 1:a=4 1:b=2"},
		{`(par (par (show "a") (par (show "a/b") (show "a-b"))) (par (par (show "B") (show "_")) (par (show "9") (show "a0"))))`, "1|2|3|4|5|6|7", "", "1|2|3|4|5|6|7", "0:9=6 0:B=4 0:_=5 0:a=1 0:a-b=3 0:a/b=2 0:a0=7"},
		// Nothing hears the show.
		{`(split wire (par wire (seq (show "s") cut)))`, "1 2", "", "1 2", "0:s=1 1:s=2"}, {`(split wire (par wire (seq (up 2 (show "s")) cut)))`, "1 2", "", "1 2", "0:s=1 1:s=2"}, {`(par wire (gate (seq (show "s") cut)))`, "1 2 3|0 1 0|4 5 6", "", "1 2 3", "1:s=5"}, {`(par wire (reset (seq (show "s") cut)))`, "1 2|0 1|4 5", "", "1 2", "0:s=4 1:s=5"}, {`(par wire (down 2 (seq (show "s") cut)))`, "1 2 3|4 5 6", "", "1 2 3", "0:s=4 2:s=6"},
		// It runs several times in a sample, or not at all.
		{`(up 3 (seq (rec add (delay 1)) (show "s")))`, "1 2", "", "3 9", "0:s=3 1:s=9"}, {`(up 2 (seq (wave 1 2 3) (show "s")))`, "", "", "2 1 3", "0:s=2 1:s=1 2:s=3"}, {`(up 3 (gate (seq (wave 5 6 7 8) (show "s"))))`, "1 0 1", "", "7 7 6", "0:s=7 2:s=6"}, {`(up 2 (down 3 (show "s")))`, "1 2 3 4", "", "1 2 2 4", "0:s=1 1:s=2 3:s=4"},
		{`(up 3 (seq (wave 1 0) (gate (seq (wave 5 6 7 8) (show "s")))))`, "", "", "6 7 5", "0:s=6 1:s=7 2:s=5"},
		{`(down 2 (show "s"))`, "1 2 3 4 5", "", "1 1 3 3 5", "0:s=1 2:s=3 4:s=5"}, {`(gate (show "s"))`, "0 1 none 2 | 5 6 7 8", "", "0 6 6 8", "1:s=6 3:s=8"}, {`(reset (show "s"))`, "0 1 none | 5 6 7", "", "5 6 7", "0:s=5 1:s=6 2:s=7"},
		{`(seq (knob "k" 1 0 9 0) (show "s"))`, "", "1:k=4 1:s=5", "1 4", "0:s=1 1:s=4"}, {`(rec (seq add (show "s")) (delay 1))`, "1 1 1", "", "1 2 3", "0:s=1 1:s=2 2:s=3"}, {`(rec add (seq (delay 1) (show "s")))`, "1 1 1", "", "1 2 3", "0:s=0 1:s=1 2:s=2"}, {`(delay 1)`, "1 2", "", "0 1", ""},
	})
	// No samples, no outs.
	if outs, told, err := mean.Play(parse(t, `(show "s")`), make([][]api.Q, 1), events(t, "0:k=1"), 0); len(outs) != 1 || len(outs[0]) != 0 || len(told) != 0 || err != api.OK {
		t.Errorf("no samples: %v, %v, %v", outs, told, err)
	}
	if outs, told, err := mean.Play(parse(t, `(seq (show "s") cut)`), signals(t, "1 2"), nil, 2); len(outs) != 0 || textOfTold(told) != "0:s=1 1:s=2" || err != api.OK {
		t.Errorf("no outs: %v, %v, %v", outs, told, err)
	}
}

// R3, R4: Play changes no arguments, keeps none, gives equal calls equal answers, in new memory.
func TestPlayChangesNothing(t *testing.T) {
	c := &chance{state: 10}
	for range 2000 {
		b := c.diagram(1+c.of(6), c.of(4), c.of(4))
		n, _, _ := block.Ports(b)
		ins, l := c.ins(n, 6), append(c.events(6), api.Event{At: -1, Path: "a", Value: q(1, 1)})
		own, _ := block.At(b, nil)
		var ownIns [][]api.Q
		for _, in := range ins {
			ownIns = append(ownIns, slices.Clone(in))
		}
		ownEvents := slices.Clone(l)
		outs, told := play(t, b, ins, l, 6)
		isSame := block.Same(b, own) && slices.Equal(l, ownEvents) && slices.EqualFunc(ins, ownIns, slices.Equal[[]api.Q])
		if !isSame {
			t.Fatalf("%s: arguments are changed", dump(own))
		}
		want, wantTold := textOfSignals(outs), textOfTold(told)
		for i := range outs {
			for k := range outs[i] {
				outs[i][k] = q(int64(1000+i), 1)
			}
			_ = append(outs[i], q(99, 1))
		}
		for i := range outs {
			if slices.ContainsFunc(outs[i], func(x api.Q) bool { return x != q(int64(1000+i), 1) }) {
				t.Fatalf("%s: outs share memory", dump(b))
			}
		}
		outs, told = play(t, b, ins, l, 6)
		if textOfSignals(outs) != want || textOfTold(told) != wantTold {
			t.Fatalf("%s: %s, then %s", dump(b), want, textOfSignals(outs))
		}
	}
}

// R1: many events, in any order, do no harm.
func TestPlayManyEvents(t *testing.T) {
	var l []api.Event
	want := slices.Repeat([]api.Q{q(1, 1)}, 5000)
	for i := range 200000 {
		at, value := i*7919%5000, q(int64(i/5000%7), 1)
		l = append(l, api.Event{At: at, Path: "k", Value: value})
		want[at] = value
	}
	outs, _ := play(t, parse(t, `(knob "k" 1 0 9 0)`), nil, l, api.MaxTime)
	if !slices.Equal(outs[0], want[:api.MaxTime]) {
		t.Errorf("got %.100s .., want %.100s ..", textOf(outs[0]), textOf(want))
	}
}
