package cause_test

import (
	"fmt"
	"math"
	"slices"
	"strings"
	"testing"

	"serinette/api"
	"serinette/block"
	"serinette/cause"
)

// within returns a drawn diagram with these ports that has no loop without a delay.
func (c *chance) within(depth, ins, outs int) api.Block {
	for {
		b := c.block(depth, ins, outs)
		if _, err := cause.Least(b); err == api.OK {
			return b
		}
	}
}

// both returns the least delays of ways through both, by those of each.
func both(a, b [][]int) [][]int {
	var rows [][]int
	for _, on := range b {
		best := map[int]int{}
		ins := 0
		for j, n := range on {
			ins = len(a[j])
			for i, m := range a[j] {
				if before, ok := best[i]; n >= 0 && m >= 0 && (!ok || n+m < before) {
					best[i] = n + m
				}
			}
		}
		var row []int
		for i := range ins {
			if n, ok := best[i]; ok {
				row = append(row, n)
			} else {
				row = append(row, -1)
			}
		}
		rows = append(rows, row)
	}
	return rows
}

// P7.2: Least of seq is that of both; Loops are those of one and then the other.
func TestSeqOfBoth(t *testing.T) {
	c := chance(11)
	for range 6000 {
		between := 1 + c.of(4)
		a, b := c.within(1+c.of(5), c.of(4), between), c.within(1+c.of(5), between, c.of(4))
		leastA, _ := cause.Least(a)
		leastB, _ := cause.Least(b)
		loopsA, _ := cause.Loops(a)
		loopsB, _ := cause.Loops(b)
		want := traced(both(leastA, leastB), append(loopsA, loopsB...))
		whole := two("seq", a, b)
		if got := tell(t, whole); got != want {
			t.Fatalf("%s: got %s, want %s", dump(whole), got, want)
		}
	}
}

// P7.2: split and merge of equal numbers are as seq; many wires behind or ahead change nothing.
func TestWiresAreNeutral(t *testing.T) {
	c := chance(12)
	for range 3000 {
		ins, outs := 1+c.of(4), 1+c.of(4)
		b := c.block(1+c.of(5), ins, outs)
		want := tell(t, b)
		if i := strings.Index(want, " "); strings.HasPrefix(want, "around") {
			want = want[:i]
		}
		for _, op := range []string{"seq", "split", "merge"} {
			for _, whole := range []api.Block{two(op, b, wires(outs)), two(op, wires(ins), b)} {
				if got := tell(t, whole); got != want && !(want == "around" && strings.HasPrefix(got, want)) {
					t.Fatalf("%s: got %s, want %s", dump(whole), got, want)
				}
			}
		}
	}
}

// P7.2: a rec with delay 1 ahead of each out of its second Kid is never refused.
func TestDelayedRecs(t *testing.T) {
	c := chance(13)
	for range 6000 {
		outs, fed := 1+c.of(4), 1+c.of(4)
		taken := c.of(outs + 1)
		a, back := c.within(1+c.of(5), fed+c.of(4), outs), c.within(1+c.of(5), taken, fed)
		for _, delays := range [][]api.Block{copies(fed, delay(1)), append(copies(fed-1, delay(1+c.of(9))), delay(1))} {
			b := two("rec", a, two("seq", back, balanced("par", delays...)))
			got := tell(t, b)
			if strings.HasPrefix(got, "around") || strings.HasPrefix(got, "error") {
				t.Fatalf("%s: got %s", dump(b), got)
			}
			loops, _ := cause.Loops(b)
			if last := loops[len(loops)-1]; last == 0 || last < -1 {
				t.Fatalf("%s: loops %v", dump(b), loops)
			}
		}
	}
}

// P7.2: a delay that is longer makes no Least less, and refuses nothing.
func TestLongerDelays(t *testing.T) {
	c := chance(14)
	tried := 0
	for tried < 4000 {
		b := c.within(2+c.of(5), 1+c.of(4), 1+c.of(4))
		at := places("delay", b)
		if len(at) == 0 {
			continue
		}
		tried++
		longer := copied(b)
		for range 1 + c.of(3) {
			d := pointer(&longer, among(&c, at...))
			d.N += c.of(api.MaxDelay - d.N + 1)
		}
		before, _ := cause.Least(b)
		loops, _ := cause.Loops(b)
		after, err := cause.Least(longer)
		loopsAfter, _ := cause.Loops(longer)
		if err != api.OK || !isNoLess(append(after, loopsAfter), append(before, loops)) {
			t.Fatalf("%s: %v, %v; %s: %v, %v, %v", dump(b), before, loops, dump(longer), after, loopsAfter, err)
		}
	}
}

// isNoLess tells whether no number is less, and there are ways where there were.
func isNoLess(after, before [][]int) bool {
	return slices.EqualFunc(after, before, func(a, b []int) bool {
		return slices.EqualFunc(a, b, func(a, b int) bool { return a >= b && (a < 0) == (b < 0) })
	})
}

// raw returns blocks of any form.
func raw() []api.Block {
	l := []api.Block{
		{}, {Op: "rec"}, {Op: "rec", Kids: []api.Block{{}}}, {Op: "rec", Kids: []api.Block{{}, {}}}, {Op: "rec", Kids: copies(3, wire())}, {Op: "up", N: 0, Kids: copies(1, delay(1))}, {Op: "down", N: math.MaxInt, Kids: copies(1, delay(1))}, {Op: "down", N: -1, Kids: copies(1, delay(1))}, {Op: "delay", N: math.MinInt}, {Op: "delay", N: math.MaxInt}, {Op: "vary", N: math.MaxInt, M: math.MaxInt}, {Op: "store", Nums: []api.Q{{N: 1}}}, {Op: "gate"}, {Op: "what", Name: "a b", N: -5, Kids: copies(2, wire())},
		{Op: "seq", Kids: copies(1, wire())}, {Op: "split", Kids: copies(4, wire())}, nested(65535, wire()), balanced("seq", copies(20000, wire())...), {Op: "par", Kids: copies(100000, wire())}, balanced("par", copies(300, wire())...), two("rec", nested(70, wire()), wire()),
	}
	return append(l, two("rec", wire(), wire()), two("rec", leaf("add"), delay(1)), two("split", wires(2), wires(6)), turned("up", 2, wires(3)), ring(5, 0), ring(5, 1), one("gate", mix([]int{1, 2}, []int{-1, 0})), slow(58, delay(5)))
}

// R1, R4: each function takes blocks of any form, changes none, and answers alike to equal calls, in new memory.
func TestArgumentsStay(t *testing.T) {
	c := chance(15)
	l := raw()
	for range 300 {
		l = append(l, c.block(1+c.of(5), c.of(4), c.of(4)))
	}
	for _, b := range l {
		before := copied(b)
		want := tell(t, b)
		least, _ := cause.Least(b)
		scrambled(t, least)
		hangs, _ := cause.Depends(b)
		for _, row := range hangs {
			for i := range row {
				row[i] = !row[i]
			}
		}
		loops, _ := cause.Loops(b)
		for i := range loops {
			loops[i] = 99
		}
		way, _, _ := cause.Around(b)
		for i := range way.At {
			way.At[i] = 99
		}
		for i := range way.Outs {
			way.Outs[i] = 99
		}
		if got := tell(t, b); got != want || !same(b, before) {
			t.Fatalf("%.200s: told %s, then %s", dump(before), want, got)
		}
	}
}

// scrambled changes all rows, which must share no memory.
func scrambled(t *testing.T, rows [][]int) {
	t.Helper()
	for k, row := range rows {
		for i := range row {
			row[i] = 1000*k + i
		}
		_ = append(row, -5)
	}
	for k, row := range rows {
		for i, n := range row {
			if n != 1000*k+i {
				t.Fatalf("rows share memory: %v", rows)
			}
		}
	}
}

// P7.1: diagrams of any form have the errors of Ports.
func TestRaw(t *testing.T) {
	for _, b := range raw() {
		_, _, err := block.Ports(b)
		got := tell(t, b)
		if err != api.OK && got != refused(err) || err == api.OK && strings.HasPrefix(got, "error") {
			t.Errorf("%.200s: got %s, want %s", dump(b), got, refused(err))
		}
	}
	for _, b := range raw()[:15] {
		if got := tell(t, b); got != fmt.Sprint("error ", int(api.ErrArg)) {
			t.Errorf("%.200s: got %s, want ErrArg", dump(b), got)
		}
	}
}

// P7.1: a diagram's Least is read from its own ports: as many rows as outs, as many numbers as ins.
func TestRowsAreOfPorts(t *testing.T) {
	c := chance(16)
	for range 3000 {
		b := c.within(1+c.of(6), c.of(6), c.of(6))
		ins, outs, _ := block.Ports(b)
		least, _ := cause.Least(b)
		isShort := slices.ContainsFunc(least, func(row []int) bool { return len(row) != ins })
		if len(least) != outs || isShort {
			t.Fatalf("%s: %d ins, %d outs: %v", dump(b), ins, outs, least)
		}
		if loops, _ := cause.Loops(b); len(loops) != len(places("rec", b)) {
			t.Fatalf("%s: loops %v", dump(b), loops)
		}
	}
}
