package mean_test

import (
	"fmt"
	"slices"
	"strings"
	"testing"

	"serinette/api"
	"serinette/block"
	"serinette/mean"
)

// textOfCells writes cells.
func textOfCells(l []mean.Cell) string {
	var words []string
	for _, cell := range l {
		words = append(words, fmt.Sprint(append([]int{}, cell.At...), " ", cell.Op, ": ", textOf(cell.Vals)))
	}
	return strings.Join(words, "; ")
}

// P8.2: what each op keeps, the latest first, at the beginning and behind a run.
func TestCells(t *testing.T) {
	for _, row := range [][3]string{
		// A diagram, what came in, and its cells.
		{"wire", "1 2", ""}, {"add", "1 2 | 3 4", ""}, {"pick", "1 | 2 | 3", ""}, {"(delay 0)", "1 2", ""}, {"(vary 0 0)", "1 2 | 0 0", ""}, {"(table 1 2)", "1 2", ""}, {`(show "a")`, "1 2", ""}, {"(fit fix(1,2,near,sat))", "1 2", ""}, {"(up 2 neg)", "1 2", ""}, {"(reset neg)", "1 | 2", ""},
		{"(delay 1)", "", "[] delay: 0"}, {"(delay 1)", "1 none 5", "[] delay: 5"}, {"(delay 3)", "", "[] delay: 0 0 0"}, {"(delay 3)", "1 2", "[] delay: 2 1 0"}, {"(delay 3)", "1 ? 3 4 5 6 7", "[] delay: 7 6 5"}, {"(delay 3)", "1 2 ?", "[] delay: none 2 1"},
		{"(vary 0 3)", "", "[] vary: 0 0 0"}, {"(vary 0 3)", "1 2 | none 0", "[] vary: 2 1 0"}, {"(vary 3 3)", "1 2 3 none 5 | 0 0 0 0 0", "[] vary: 5 none 3"}, {"(vary 0 1)", "7 8 | 1 0", "[] vary: 8"},
		{"(store 1 2 3)", "", "[] store: 1 2 3"}, {"(store 1 2 3)", "0 7 2 | 8 9 none | 0 0 0", "[] store: 8 2 none"}, {"(store none)", "none | 1 | 0", "[] store: none"},
		{"(gate wire)", "", "[] gate: 0"}, {"(gate wire)", "1 0 | 5 6", "[] gate: 5"}, {"(gate (par wire neg))", "1 none | none 6 | 7 8", "[] gate: none -7"}, {"(gate cut)", "1 | 2", "[] gate: "},
		{"(down 1 wire)", "", "[] down: 0 0"}, {"(down 1 wire)", "5 6", "[] down: 0 6"}, {"(down 3 wire)", "5", "[] down: 1 5"}, {"(down 3 wire)", "5 6", "[] down: 2 5"}, {"(down 3 wire)", "5 6 7", "[] down: 0 5"}, {"(down 3 (par wire neg))", "5 6 7 none | 1 2 3 4", "[] down: 1 none -4"}, {"(down 2 cut)", "1", "[] down: 1"},
		{"(par wire (wave 5 6 7))", "", "[1] wave: 0"}, {"(par wire (wave 5 6 7))", "1 2", "[1] wave: 2"}, {"(par wire (wave 5 6 7))", "1 2 3", "[1] wave: 0"}, {"(par wire (wave 5))", "1 2 3", "[1] wave: 0"},
		// In the order of places, a block ahead of its Kids.
		{"(seq (delay 1) (delay 2))", "1 2 3", "[0] delay: 3; [1] delay: 2 1"}, {"(par (delay 1) (gate (seq (delay 2) (delay 1))))", "1 2 | 0 1 | 5 6", "[0] delay: 2; [1] gate: 0; [1 0 0] delay: 6 0; [1 0 1] delay: 0"},
		{"(rec (seq add (delay 1)) (delay 2))", "1 2 3", "[0 1] delay: 3; [1] delay: 2 1"}, {"(rec add (delay 1))", "1 2", "[1] delay: 3"}, {"(down 2 (gate (delay 1)))", "1 0 1 | 5 6 7", "[] down: 1 5; [0] gate: 5; [0 0] delay: 7"}, {"(gate (down 2 (delay 1)))", "1 0 1 | 5 6 7", "[] gate: 0; [0] down: 0 0; [0 0] delay: 5"},
		{"(up 2 (rec add (delay 1)))", "1 2", "[0 1] delay: 6"}, {"(up 1 (delay 1))", "4", "[0] delay: 4"}, {"(reset (delay 2))", "0 1 | 5 6", "[0] delay: 6 0"}, {"(split wire (par (delay 1) (par wire (delay 2))))", "4 5", "[1 0] delay: 5; [1 1 1] delay: 5 4"}, {"(merge (par (delay 1) (delay 1)) (delay 1))", "4 5 | 6 7", "[0 0] delay: 5; [0 1] delay: 7; [1] delay: 10"},
		{"(seq (par (store 1) (vary 0 1)) (par (delay 1) (delay 0)))", "0 | 9 | 0 | 8 | 1", "[0 0] store: 9; [0 1] vary: 8; [1 0] delay: 1"},
	} {
		p := fresh(t, parse(t, row[0]))
		ins := signals(t, row[1])
		for i := range slices.MaxFunc(append(ins, nil), func(a, b []api.Q) int { return len(a) - len(b) }) {
			step(t, p, sample(ins, i)...)
		}
		if got := textOfCells(p.Cells()); got != row[2] {
			t.Errorf("%s behind %s: %s, want %s", row[0], row[1], got, row[2])
		}
	}
}

// P8.2: what drawn diagrams keep, as the chapter's words say.
func TestCellsByWords(t *testing.T) {
	c := &chance{state: 8}
	kept := map[string]int{}
	for range 5000 {
		b := c.diagram(1+c.of(6), c.of(4), c.of(4))
		ins, _, _ := block.Ports(b)
		p, want := fresh(t, b), courseOf(b)
		for i := range 7 {
			cells := cellsByWords(b, want.kept, nil)
			if got, want := textOfCells(p.Cells()), textOfCells(cells); got != want {
				t.Fatalf("%s behind %d samples: %s, want %s", dump(b), i, got, want)
			}
			for _, cell := range cells {
				kept[cell.Op]++
			}
			values := c.numbers(ins)
			step(t, p, values...)
			want.step(values)
		}
	}
	for _, op := range strings.Fields("delay vary store wave down gate") {
		if kept[op] < 2000 {
			t.Errorf("%s: but %d", op, kept[op])
		}
	}
}

// R4: Cells are new memory each time, and share none.
func TestCellsShareNoMemory(t *testing.T) {
	b := parse(t, "(par (par (delay 2) (gate (seq (delay 1) neg))) (par (down 2 (store 1 2)) (par (vary 0 2) (wave 1 2 3))))")
	p := fresh(t, b)
	for i := range 3 {
		n, _, _ := block.Ports(b)
		step(t, p, slices.Repeat([]api.Q{q(int64(i+1), 1)}, n)...)
	}
	want := textOfCells(p.Cells())
	l := p.Cells()
	for i := range l {
		l[i].Op = "x"
		for k := range l[i].At {
			l[i].At[k] = 100 + i
		}
		_ = append(l[i].At, 99)
		for k := range l[i].Vals {
			l[i].Vals[k] = q(int64(1000+i), 1)
		}
		_ = append(l[i].Vals, q(99, 1))
	}
	for i := range l {
		isOther := slices.ContainsFunc(l[i].Vals, func(x api.Q) bool { return x != q(int64(1000+i), 1) })
		if isOther || slices.ContainsFunc(l[i].At, func(k int) bool { return k != 100+i }) {
			t.Errorf("cells share memory: %v", l)
		}
	}
	if got := textOfCells(p.Cells()); got != want {
		t.Errorf("Cells: %s, then %s", want, got)
	}
	// Nor is what was loaded kept or changed.
	l = p.Cells()
	l[0].Vals[0] = noNumber()
	other := fresh(t, b)
	if err := other.Load(l); err != api.OK || l[0].Vals[0] != noNumber() {
		t.Errorf("Load: %v, %v", err, l)
	}
	loaded := textOfCells(other.Cells())
	for i := range l {
		for k := range l[i].Vals {
			l[i].Vals[k] = q(5, 1)
		}
	}
	if got := textOfCells(other.Cells()); got != loaded {
		t.Errorf("Load keeps what it was given: %s, then %s", loaded, got)
	}
}

// P8.2: Load takes the cells of the same diagram alone; else nothing changes.
func TestLoadRefuses(t *testing.T) {
	b := parse(t, "(par (par (delay 2) (wave 1 2 3)) (par (down 2 wire) (gate (delay 1))))")
	p := fresh(t, b)
	for range 3 {
		step(t, p, numbers(t, "5 6 1 7")...)
	}
	want := textOfCells(p.Cells())
	if want != "[0 0] delay: 5 5; [0 1] wave: 0; [1 0] down: 1 6; [1 1] gate: 7; [1 1 0] delay: 7" {
		t.Fatalf("Cells: %s", want)
	}
	for what, change := range map[string]func(l []mean.Cell) []mean.Cell{
		"none":                         func(l []mean.Cell) []mean.Cell { return nil },
		"too few":                      func(l []mean.Cell) []mean.Cell { return l[:4] },
		"without the first":            func(l []mean.Cell) []mean.Cell { return l[1:] },
		"too many":                     func(l []mean.Cell) []mean.Cell { return append(l, l[4]) },
		"another order":                func(l []mean.Cell) []mean.Cell { l[0], l[1] = l[1], l[0]; return l },
		"another At":                   func(l []mean.Cell) []mean.Cell { l[0].At = []int{0, 1}; return l },
		"a longer At":                  func(l []mean.Cell) []mean.Cell { l[0].At = []int{0, 0, 0}; return l },
		"a shorter At":                 func(l []mean.Cell) []mean.Cell { l[4].At = []int{1, 1}; return l },
		"no At":                        func(l []mean.Cell) []mean.Cell { l[3].At = nil; return l },
		"another Op":                   func(l []mean.Cell) []mean.Cell { l[0].Op = "vary"; return l },
		"no Op":                        func(l []mean.Cell) []mean.Cell { l[4].Op = ""; return l },
		"a longer delay":               func(l []mean.Cell) []mean.Cell { l[0].Vals = numbers(t, "1 2 3"); return l },
		"a shorter delay":              func(l []mean.Cell) []mean.Cell { l[0].Vals = numbers(t, "1"); return l },
		"an empty one":                 func(l []mean.Cell) []mean.Cell { l[4].Vals = nil; return l },
		"a longer wave":                func(l []mean.Cell) []mean.Cell { l[1].Vals = numbers(t, "1 2"); return l },
		"an empty wave":                func(l []mean.Cell) []mean.Cell { l[1].Vals = nil; return l },
		"a wave's place beyond":        func(l []mean.Cell) []mean.Cell { l[1].Vals = numbers(t, "3"); return l },
		"a wave's place far beyond":    func(l []mean.Cell) []mean.Cell { l[1].Vals = []api.Q{{N: 1 << 62, D: 1}}; return l },
		"a wave's place below":         func(l []mean.Cell) []mean.Cell { l[1].Vals = numbers(t, "-1"); return l },
		"a wave's place, a fraction":   func(l []mean.Cell) []mean.Cell { l[1].Vals = numbers(t, "1/2"); return l },
		"a wave's place none":          func(l []mean.Cell) []mean.Cell { l[1].Vals = numbers(t, "none"); return l },
		"a wave's place no number":     func(l []mean.Cell) []mean.Cell { l[1].Vals = numbers(t, "?"); return l },
		"a wave's place without D":     func(l []mean.Cell) []mean.Cell { l[1].Vals = []api.Q{{N: 1}}; return l },
		"a down's place beyond":        func(l []mean.Cell) []mean.Cell { l[2].Vals = numbers(t, "2 0"); return l },
		"a down's place below":         func(l []mean.Cell) []mean.Cell { l[2].Vals = numbers(t, "-1 0"); return l },
		"a down's place, a fraction":   func(l []mean.Cell) []mean.Cell { l[2].Vals = numbers(t, "3/2 0"); return l },
		"a down's place none":          func(l []mean.Cell) []mean.Cell { l[2].Vals = numbers(t, "none 0"); return l },
		"a down's place no number":     func(l []mean.Cell) []mean.Cell { l[2].Vals = numbers(t, "? 0"); return l },
		"a down without outs":          func(l []mean.Cell) []mean.Cell { l[2].Vals = numbers(t, "1"); return l },
		"a down with more outs":        func(l []mean.Cell) []mean.Cell { l[2].Vals = numbers(t, "1 0 0"); return l },
		"an empty down":                func(l []mean.Cell) []mean.Cell { l[2].Vals = nil; return l },
		"a longer gate":                func(l []mean.Cell) []mean.Cell { l[3].Vals = numbers(t, "1 2"); return l },
		"an empty gate":                func(l []mean.Cell) []mean.Cell { l[3].Vals = nil; return l },
		"good ones ahead of a bad one": func(l []mean.Cell) []mean.Cell { l[0].Vals = numbers(t, "8 9"); l[4].Op = "gate"; return l },
	} {
		if err := p.Load(change(p.Cells())); err != api.ErrArg {
			t.Errorf("%s: Load: %v", what, err)
		}
		if got := textOfCells(p.Cells()); got != want {
			t.Fatalf("%s: cells %s, then %s", what, want, got)
		}
	}
	if err := fresh(t, wire()).Load([]mean.Cell{{}}); err != api.ErrArg {
		t.Errorf("a cell where there is none: Load: %v", err)
	}
	if err := fresh(t, wire()).Load(nil); err != api.OK {
		t.Errorf("no cells where there are none: Load: %v", err)
	}
}

// P8.2: a player goes on with what it has loaded.
func TestLoad(t *testing.T) {
	for _, row := range [][4]string{
		// A diagram, the Vals of its cells, what comes in, and what comes out.
		{"(delay 3)", "7 8 9", "1 2 3 4 5", "9 8 7 1 2"}, {"(delay 1)", "none", "1 2", "none 1"}, {"(delay 2)", "? 5", "1 2 3", "5 none 1"},
		{"(vary 0 3)", "7 8 9", "1 2 3 4 | 3 2 2 0", "9 7 1 4"}, {"(vary 0 3)", "7 8 9", "1 2 3 4 | 1 2 3 3", "7 7 7 1"}, {"(store 1 2)", "8 none", "none none | 0 0 | 0 1", "8 none"}, {"(store 1 2)", "? 9", "none none | 0 0 | 0 1", "none 9"},
		{"(wave 1 2 3)", "2", "", "3 1 2 3"}, {"(wave 1 2 3)", "0", "", "1 2 3"}, {"(down 3 wire)", "2 9", "1 2 3", "9 2 2"}, {"(down 3 wire)", "1 ?", "1 2 3", "none none 3"}, {"(down 3 wire)", "0 9", "1 2 3 4", "1 1 1 4"}, {"(down 2 (par wire neg))", "1 8 none", "1 2 | 3 4", "8 2 | none -4"}, {"(gate wire)", "9", "0 1 0 | 1 2 3", "9 2 2"}, {"(gate (par wire neg))", "8 none", "0 1 | 1 2 | 3 4", "8 2 | none -4"},
		{"(rec add (delay 1))", "10", "1 1", "11 12"}, {"(up 2 (rec add (delay 1)))", "10", "1 1", "12 14"}, {"(reset (delay 1))", "10", "0 1 0 | 1 2 3", "10 0 2"}, {"(reset (wave 1 2 3))", "2", "0 1 0", "3 1 2"},
		{"(reset (store 1 2))", "8 9", "0 1 | none none | 0 0 | 0 0", "8 1"}, {"(reset (down 2 wire))", "1 9", "0 1 0 | 1 2 3", "9 2 2"}, {"(reset (gate wire))", "9", "0 1 0 | 0 0 1 | 1 2 3", "9 0 3"},
	} {
		p := fresh(t, parse(t, row[0]))
		l := p.Cells()
		l[0].Vals = numbers(t, row[1])
		if err := p.Load(l); err != api.OK || len(l) != 1 {
			t.Errorf("%s: Load: %v of %d", row[0], err, len(l))
		}
		ins, want := signals(t, row[2]), signals(t, row[3])
		outs := make([][]api.Q, len(want))
		for i := range want[0] {
			for k, out := range step(t, p, sample(ins, i)...) {
				outs[k] = append(outs[k], out)
			}
		}
		if got := textOfSignals(outs); got != textOfSignals(want) {
			t.Errorf("%s with %s: %s, want %s", row[0], row[1], got, textOfSignals(want))
		}
	}
}

// P8.2: time, controls and what was told stay when cells are loaded.
func TestLoadKeepsTheRest(t *testing.T) {
	b := parse(t, `(par (seq (knob "k" 1 0 9 0) (show "s")) (par (gate (show "g")) (delay 1)))`)
	p := fresh(t, b)
	p.Set("k", q(5, 1))
	step(t, p, numbers(t, "0 1 7")...)
	l := p.Cells()
	step(t, p, numbers(t, "1 2 8")...)
	p.Set("k", q(6, 1))
	if err := p.Load(l); err != api.OK || p.Time() != 2 {
		t.Errorf("Load: %v, Time %d", err, p.Time())
	}
	k, _ := p.Get("k")
	s, _ := p.Told("s")
	g, _ := p.Told("g")
	if got := textOf([]api.Q{k, s, g}); got != "6 5 2" {
		t.Errorf("control, told, told: %s", got)
	}
	if got := textOf(step(t, p, numbers(t, "0 3 9")...)); got != "6 0 7" {
		t.Errorf("behind it: %s", got)
	}
}

// P8.5: cells of a run, loaded into a fresh player with the same controls, go on alike.
func TestCellsGoOnAlike(t *testing.T) {
	c := &chance{state: 9}
	for range 8000 {
		b := c.diagram(1+c.of(6), c.of(4), c.of(4))
		n, _, _ := block.Ports(b)
		shows, _ := block.Shows(b)
		p, other := fresh(t, b), fresh(t, b)
		for range c.of(7) {
			path, to := among(c, "a", "b", "c/d"), c.number()
			p.Set(path, to)
			other.Set(path, to)
			step(t, p, c.numbers(n)...)
		}
		if err := other.Load(p.Cells()); err != api.OK || other.Time() != 0 {
			t.Fatalf("%s: Load: %v, Time %d", dump(b), err, other.Time())
		}
		for i := range 6 {
			ins := c.numbers(n)
			if got, want := textOf(step(t, other, ins...)), textOf(step(t, p, ins...)); got != want {
				t.Fatalf("%s at %d: %s, want %s", dump(b), i, got, want)
			}
			if got, want := textOfCells(other.Cells()), textOfCells(p.Cells()); got != want {
				t.Fatalf("%s at %d: keeps %s, want %s", dump(b), i, got, want)
			}
			for _, path := range shows {
				want, _ := p.Told(path)
				if got, err := other.Told(path); err == api.OK && got != want {
					t.Fatalf("%s at %d: %s told %v, want %v", dump(b), i, path, got, want)
				}
			}
		}
	}
}
