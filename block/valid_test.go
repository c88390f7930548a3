package block_test

import (
	"math"
	"math/rand"
	"slices"
	"strings"
	"testing"

	"serinette/api"
	"serinette/block"
)

// P5.1: the ports of each op without Kids.
func TestPortsOfOps(t *testing.T) {
	for ops, want := range map[string][2]int{
		"wire neg abs floor round frac not fit delay table show": {1, 1},
		"cut":           {1, 0},
		"num wave knob": {0, 1},
		"pick store":    {3, 1},
		"add sub mul div mod min max lt le eq ne and or xor shl shr vary": {2, 1},
	} {
		for _, op := range strings.Fields(ops) {
			seen := 0
			for _, b := range samples() {
				if b.Op == op {
					seen++
					wantPorts(t, b, want[0], want[1])
				}
			}
			if seen == 0 {
				t.Errorf("no sample of %s", op)
			}
		}
	}
	for _, b := range samples() {
		wantValid(t, b)
		b.Kids, b.Nums = append([]api.Block{}, b.Kids...), append([]api.Q{}, b.Nums...)
		wantValid(t, b)
	}
}

// P5.1: what is no op.
func TestNoOps(t *testing.T) {
	for _, op := range []string{"", " ", "Wire", "WIRE", "wires", "wire ", " wire", "const", "+", "_", "!", "op", "name", "sum", "call", "hold", "none", "1", "fix", "float", "wire\x00", "é"} {
		for _, b := range []api.Block{leaf(op), two(op, wire(), wire()), one(op, wire()), numbered(op, q(1, 1)), {Op: op, N: 1}, {Op: op, Name: "a"}} {
			wantNowhereValid(t, b)
		}
	}
}

// P5.1: a field that the op does not have must be zero.
func TestFieldsThatAnOpDoesNotHave(t *testing.T) {
	near := format("fix", 1, 2, "near", "sat")
	for _, c := range []struct {
		owners string
		put    func(b *api.Block)
	}{
		{"delay vary up down", func(b *api.Block) { b.N = 1 }}, {"delay vary up down", func(b *api.Block) { b.N = -1 }}, {"delay vary up down", func(b *api.Block) { b.N = math.MinInt }},
		{"vary", func(b *api.Block) { b.M = 1 }}, {"vary", func(b *api.Block) { b.M = -1 }}, {"vary", func(b *api.Block) { b.M = math.MaxInt }},
		{"knob show", func(b *api.Block) { b.Name = "a" }}, {"knob show", func(b *api.Block) { b.Name = " " }},
		{"num table store wave knob", func(b *api.Block) { b.Nums = qs(1) }}, {"num table store wave knob", func(b *api.Block) { b.Nums = []api.Q{none} }}, {"num table store wave knob", func(b *api.Block) { b.Nums = qs(1, 0, 2, 0) }},
		{"fit", func(b *api.Block) { b.Format = near }}, {"fit", func(b *api.Block) { b.Format.Kind = "fix" }}, {"fit", func(b *api.Block) { b.Format.I = 1 }}, {"fit", func(b *api.Block) { b.Format.F = 1 }}, {"fit", func(b *api.Block) { b.Format.Round = "near" }}, {"fit", func(b *api.Block) { b.Format.Over = "sat" }},
	} {
		for _, b := range samples() {
			if !slices.Contains(strings.Fields(c.owners), b.Op) {
				c.put(&b)
				wantNotValid(t, b)
			}
		}
	}
	wantNowhereValid(t, api.Block{Op: "wire", N: 1})
	wantNowhereValid(t, api.Block{Op: "delay", N: 1, M: 1})
}

// P5.1: as many Kids as the op has, whatever they are.
func TestNumberOfKids(t *testing.T) {
	for _, b := range samples() {
		for n := range 5 {
			b.Kids = copies(n, wire())
			_, _, fields, _ := rowOf(b.Op)
			right := 0
			switch {
			case slices.Contains(fields, "Kids2"):
				right = 2
			case slices.Contains(fields, "Kids1"):
				right = 1
			}
			if n == right {
				wantValid(t, b)
			} else {
				wantNotValid(t, b)
			}
		}
	}
	for _, b := range []api.Block{{Op: "par"}, one("seq", wire()), {Op: "up", N: 1}, {Op: "gate"}, {Op: "reset", Kids: copies(2, wire())}, {Op: "rec", Kids: copies(3, wire())}, one("wire", wire()), one("num", num(1, 1))} {
		wantNowhereValid(t, b)
	}
}

// P5.1: numbers in lowest terms and none are valid, others are not, also such as count as none elsewhere.
func TestNumbersOfBlocks(t *testing.T) {
	good := []api.Q{none, q(0, 1), q(1, 1), q(-1, 1), q(1, 2), q(-3, 4), q(api.MaxNum, 1), q(-api.MaxNum, 1), q(1, api.MaxNum), q(-1, api.MaxNum), q(api.MaxNum, api.MaxNum-1)}
	for _, op := range []string{"num", "table", "store", "wave"} {
		for _, v := range good {
			wantValid(t, numbered(op, v))
		}
		for _, v := range notNumbers() {
			wantNowhereValid(t, numbered(op, v))
		}
	}
	for _, op := range []string{"table", "store", "wave"} {
		wantValid(t, numbered(op, good...))
		for _, v := range notNumbers() {
			for at := range good {
				l := slices.Clone(good)
				l[at] = v
				wantNotValid(t, numbered(op, l...))
			}
		}
	}
}

// P5.1: how many numbers.
func TestHowManyNumbers(t *testing.T) {
	for n := range 4 * api.MaxTable {
		for _, op := range []string{"table", "store", "wave", "num"} {
			most := api.MaxTable
			if op == "num" {
				most = 1
			}
			if b := numbered(op, slices.Repeat(qs(3), n)...); n >= 1 && n <= most {
				wantValid(t, b)
			} else {
				wantNotValid(t, b)
			}
		}
	}
}

// P5.1: N and M.
func TestRangesOfInts(t *testing.T) {
	numbers := []int{math.MinInt, math.MinInt32, -4096, -2, -1, 0, 1, 2, 7, 8, 9, 64, 4095, 4096, 4097, math.MaxInt32, 1 << 32, 1<<32 + 1, math.MaxInt}
	check := func(b api.Block, isRight bool) {
		t.Helper()
		if isRight {
			wantValid(t, b)
		} else {
			wantNotValid(t, b)
		}
	}
	for _, n := range numbers {
		check(delay(n), 0 <= n && n <= 4096)
		check(turned("up", n, wire()), 1 <= n && n <= 8)
		check(turned("down", n, wire()), 1 <= n && n <= 8)
		for _, m := range numbers {
			check(vary(n, m), 0 <= n && n <= m && m <= 4096)
		}
	}
	for _, b := range []api.Block{delay(-1), delay(4097), vary(2, 1), vary(-1, 1), vary(0, 4097), turned("up", 0, wire()), turned("down", 9, wire())} {
		wantNowhereValid(t, b)
	}
}

// P5.1: the format of a fit.
func TestFormatsOfFit(t *testing.T) {
	for _, kind := range []string{"", "fix", "float", "Fix", "int"} {
		for _, sizes := range [][2]int{{0, 0}, {1, 0}, {1, 2}, {30, 0}, {0, 30}, {24, 6}, {24, 7}, {25, 0}, {10, 20}, {9, 21}, {15, 15}, {16, 15}, {31, 0}, {0, 31}, {-1, 0}, {0, -1}, {math.MaxInt, 1}} {
			for _, round := range []string{"floor", "near", "zero", "", "up"} {
				for _, over := range []string{"sat", "wrap", "none", "", "clip"} {
					f := format(kind, sizes[0], sizes[1], round, over)
					if isFormat(f) {
						wantPorts(t, fit(f), 1, 1)
					} else {
						wantNotValid(t, fit(f))
					}
				}
			}
		}
	}
	wantNowhereValid(t, leaf("fit"))
}

// P5.1: the numbers of a knob: Init, Lo, Hi, Step.
func TestNumbersOfKnobs(t *testing.T) {
	const m = api.MaxNum
	for _, l := range [][4]api.Q{
		{q(0, 1), q(0, 1), q(0, 1), q(0, 1)}, {q(1, 1), q(0, 1), q(2, 1), q(1, 10)}, {q(0, 1), q(0, 1), q(2, 1), q(0, 1)}, {q(2, 1), q(0, 1), q(2, 1), q(0, 1)}, {q(2, 1), q(2, 1), q(2, 1), q(5, 1)}, {q(-1, 2), q(-1, 2), q(1, 3), q(7, 1)}, {q(1, 7), q(0, 1), q(1, 1), q(1, 2)},
		// Without a Step there is no bound.
		{q(0, 1), q(-m, 1), q(m, 1), q(0, 1)}, {q(1, m), q(1, m), q(m, 1), q(0, 1)}, {q(-1, m), q(-m, m-1), q(m, m-1), q(0, 1)},
		// The bound: the lowest common multiple of the denominators of Lo and Step, times the greatest of 1 and the sizes of Lo and Hi.
		{q(0, 1), q(-m, 1), q(m, 1), q(1, 1)}, {q(0, 1), q(-m, 1), q(m, 1), q(m, 1)}, {q(0, 1), q(0, 1), q(m/2, 1), q(1, 2)}, {q(0, 1), q(-m/2, 1), q(0, 1), q(1, 2)}, {q(0, 1), q(0, 1), q(1, 1), q(1, m)}, {q(0, 1), q(0, 1), q(1, 2), q(1, m)}, {q(1, m), q(1, m), q(1, m), q(1, m)},
		{q(1, 2), q(1, 2), q(m/4, 1), q(1, 4)}, {q(1, 4), q(1, 4), q(m/4, 1), q(1, 2)}, {q(1, 6), q(1, 6), q(m/12, 1), q(1, 4)}, {q(1, 32768), q(1, 32768), q(1, 1), q(1, 32767)}, {q(1, 32768), q(1, 32768), q(32768, 1), q(1, 32768)},
		// The denominator of Hi does not count; the product may have a numerator beyond MaxNum, and yet not be above it.
		{q(0, 1), q(0, 1), q(m-1, m), q(1, 1)}, {q(0, 1), q(0, 1), q(m-1, 4), q(1, 3)}, {q(0, 1), q(0, 1), q(m, 3), q(1, 2)}, {q(0, 1), q(0, 1), q(m, m-1), q(1, m-2)}, {q(0, 1), q(0, 1), q(1, m), q(1, m-1)}, {q(0, 1), q(0, 1), q(m-1, 7), q(1, 7)}, {q(0, 1), q(0, 1), q(m, 3), q(1, 3)}, {q(0, 1), q(0, 1), q(m, m-1), q(1, m-1)}, {q(0, 1), q(0, 1), q(m, m-1), q(2, m-1)},
		// That of Init does not, either.
		{q(1, m), q(0, 1), q(m, 1), q(1, 1)}, {q(1, 3), q(0, 1), q(1, 1), q(1, m)},
	} {
		wantPorts(t, knob("a", l[0], l[1], l[2], l[3]), 0, 1)
	}
	for _, l := range [][]api.Q{
		nil, qs(0), qs(0, 0), qs(0, 0, 0), qs(0, 0, 0, 0, 0), qs(1, 0, 2, 1, 0), qs(-1, 0, 2, 1), qs(3, 0, 2, 1), qs(1, 2, 0, 1), qs(0, 2, 0, 0), qs(2, 2, 0, 0), qs(1, 0, 2, -1), {q(1, 1), q(0, 1), q(2, 1), q(-1, m)}, {q(-1, m), q(0, 1), q(2, 1), q(0, 1)}, {q(2, 1), q(0, 1), q(m, m-1), q(0, 1)},
		{q(0, 1), q(-m, 1), q(m, 1), q(1, 2)}, {q(0, 1), q(0, 1), q(m/2+1, 1), q(1, 2)}, {q(0, 1), q(-m/2-1, 1), q(0, 1), q(1, 2)}, {q(0, 1), q(0, 1), q(m-1, 1), q(3, 2)}, {q(0, 1), q(0, 1), q(2, 1), q(1, m)}, {q(0, 1), q(0, 1), q(m, m-1), q(1, m)},
		{q(1, 2), q(1, 2), q(m/4+1, 1), q(1, 4)}, {q(1, 2), q(1, 2), q(m, 1), q(1, 1)}, {q(1, 6), q(1, 6), q(m/12+1, 1), q(1, 4)}, {q(1, 32768), q(1, 32768), q(1, 1), q(1, 32769)}, {q(1, 32769), q(1, 32769), q(2, 1), q(1, 32767)}, {q(1, m), q(1, m), q(1, 1), q(1, m-1)}, {q(1, m-1), q(1, m-1), q(1, m-1), q(1, m)}, {q(0, 1), q(0, 1), q(m, 1), q(m, m-1)}, {q(0, 1), q(0, 1), q(m, 3), q(1, 4)}, {q(0, 1), q(-1, m), q(m, 1), q(m, 1)},
	} {
		wantNotValid(t, numbered("knob", l...))
		b := numbered("knob", l...)
		b.Name = "a"
		wantNowhereValid(t, b)
	}
	for at := range 4 {
		for _, v := range append(notNumbers(), none) {
			b := control("a")
			b.Nums[at] = v
			wantNotValid(t, b)
			b = knob("a", q(0, 1), q(0, 1), q(0, 1), q(0, 1))
			b.Nums[at] = v
			wantNotValid(t, b)
		}
	}
}

// P5.1: knobs as drawn numbers make them, and at the bound, held against the chapter's words.
func TestDrawnKnobs(t *testing.T) {
	random := rand.New(rand.NewSource(5))
	draw := func() api.Q {
		sizes := []int64{1, 2, 6, 40, 32768, 65536, 1 << 20, api.MaxNum}
		n, d := random.Int63n(sizes[random.Intn(8)])+1, random.Int63n(sizes[random.Intn(8)])+1
		if random.Intn(4) == 0 {
			n, d = sizes[random.Intn(8)], sizes[random.Intn(8)]
		}
		return q(n*int64(random.Intn(3)-1), d)
	}
	count := map[bool]int{}
	for range 60000 {
		ends := []api.Q{draw(), draw(), draw()}
		if random.Intn(9) > 0 {
			slices.SortFunc(ends, func(a, b api.Q) int { return int(a.N*b.D-b.N*a.D) >> 1 >> 62 })
		}
		step := draw()
		if random.Intn(9) > 0 {
			step.N = max(step.N, -step.N)
		}
		b := knob("a", ends[1], ends[0], ends[2], step)
		isRight := isControl(b.Nums)
		count[isRight]++
		if ins, outs, err := block.Ports(b); isRight && (ins != 0 || outs != 1 || err != api.OK) || !isRight && err != api.ErrArg {
			t.Fatalf("Ports of %s: got %d, %d, %v", dump(b), ins, outs, err)
		}
	}
	if count[true] < 5000 || count[false] < 5000 {
		t.Errorf("too few on one side: %v", count)
	}
}

// P5.1: paths of knobs and shows.
func TestPaths(t *testing.T) {
	check := func(path string, isRight bool) {
		t.Helper()
		for _, b := range []api.Block{control(path), show(path), knob(path, q(0, 1), q(0, 1), q(0, 1), q(0, 1))} {
			if isRight {
				wantValid(t, b)
			} else {
				wantNotValid(t, b)
			}
		}
	}
	const bytes = "abcdefghijklmnopqrstuvwxyzABCDEFGHIJKLMNOPQRSTUVWXYZ0123456789_-/"
	for c := range 256 {
		s := string([]byte{byte(c)})
		isRight := strings.Contains(bytes, s)
		for _, path := range []string{s, "a" + s, s + "a", "a" + s + "b", strings.Repeat("x", api.MaxName-1) + s} {
			check(path, isRight)
		}
	}
	for n := range 100 {
		check(strings.Repeat("x", n), 1 <= n && n <= 40)
		check(strings.Repeat("/", n), 1 <= n && n <= 40)
	}
	for _, path := range []string{"//", "/a/", "a//b", "-", "_", "0", bytes[:40], bytes[25:]} {
		check(path, true)
	}
	for _, path := range []string{"é", "a.b", "a b", " a", "a\n", `"a"`, "a\\b", "\u0661", "ａ", bytes, strings.Repeat("x", 100000)} {
		check(path, false)
	}
	wantNowhereValid(t, show(""))
	wantNowhereValid(t, control(strings.Repeat("x", api.MaxName+1)))
}
