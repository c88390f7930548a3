package block_test

import (
	"slices"
	"strconv"
	"strings"
	"testing"

	"serinette/api"
	"serinette/block"
)

// P5.1: each composition of blocks with few ports, which fits or does not.
func TestCompositions(t *testing.T) {
	const most = 6
	for _, op := range append(joints(), "up", "down", "gate", "reset") {
		fits := 0
		for i := range most * most * most * most {
			aIns, aOuts, bIns, bOuts := i%most, i/most%most, i/most/most%most, i/most/most/most
			b := two(op, box(aIns, aOuts), box(bIns, bOuts))
			if op == "up" || op == "down" {
				b = turned(op, 1+i%8, box(aIns, aOuts))
			} else if op == "gate" || op == "reset" {
				b = one(op, box(aIns, aOuts))
			}
			ins, outs, ok := composed(op, aIns, aOuts, bIns, bOuts)
			if !ok {
				wantRefused(t, b, api.ErrPorts)
				continue
			}
			fits++
			wantPorts(t, b, ins, outs)
		}
		if fits < most*most {
			t.Errorf("%s fits but %d times", op, fits)
		}
	}
}

// P5.1: compositions written out.
func TestCompositionsNamed(t *testing.T) {
	for _, c := range []struct {
		b         api.Block
		ins, outs int
	}{
		{two("par", leaf("add"), cut()), 3, 1}, {two("par", num(1, 1), num(2, 1)), 0, 2}, {two("par", box(0, 0), box(0, 0)), 0, 0},
		{two("seq", leaf("add"), leaf("neg")), 2, 1}, {two("seq", cut(), num(1, 1)), 1, 1}, {two("seq", num(1, 1), cut()), 0, 0}, {two("seq", box(3, 2), box(2, 5)), 3, 5},
		{two("split", wire(), wire()), 1, 1}, {two("split", wire(), leaf("pick")), 1, 1}, {two("split", box(1, 2), box(6, 3)), 1, 3}, {two("split", wire(), box(64, 1)), 1, 1}, {two("split", box(0, 64), box(64, 0)), 0, 0},
		{two("merge", wire(), wire()), 1, 1}, {two("merge", box(3, 3), wire()), 3, 1}, {two("merge", box(1, 6), box(2, 3)), 1, 3}, {two("merge", box(1, 64), cut()), 1, 0},
		{two("rec", leaf("add"), delay(1)), 1, 1}, {two("rec", wire(), wire()), 0, 1}, {two("rec", box(4, 3), box(2, 1)), 3, 3}, {two("rec", box(4, 3), box(3, 4)), 0, 3}, {two("rec", box(4, 3), box(0, 0)), 4, 3}, {two("rec", box(4, 3), box(0, 2)), 2, 3}, {two("rec", box(4, 3), box(3, 0)), 4, 3}, {two("rec", box(0, 0), box(0, 0)), 0, 0},
		{turned("up", 8, box(3, 2)), 3, 2}, {turned("down", 8, box(0, 2)), 0, 2}, {one("gate", wire()), 2, 1}, {one("reset", box(0, 3)), 1, 3}, {one("gate", one("reset", box(2, 0))), 4, 0}, {one("gate", box(63, 64)), 64, 64},
	} {
		wantPorts(t, c.b, c.ins, c.outs)
	}
	for _, b := range []api.Block{
		two("seq", cut(), wire()), two("seq", wire(), leaf("add")), two("seq", leaf("add"), leaf("add")), two("seq", wire(), num(1, 1)), two("seq", num(1, 1), num(1, 1)),
		two("split", cut(), wire()), two("split", cut(), num(1, 1)), two("split", wire(), num(1, 1)), two("split", box(1, 2), wire()), two("split", box(1, 2), leaf("pick")), two("split", box(2, 2), wire()), two("split", box(1, 0), box(0, 1)),
		two("merge", wire(), num(1, 1)), two("merge", cut(), num(1, 1)), two("merge", cut(), wire()), two("merge", box(3, 3), leaf("add")), two("merge", wire(), leaf("add")), two("merge", box(2, 0), box(0, 0)),
		two("rec", wire(), leaf("add")), two("rec", cut(), wire()), two("rec", num(1, 1), wire()), two("rec", num(1, 1), num(1, 1)), two("rec", wire(), box(1, 2)), two("rec", wire(), box(2, 1)), two("rec", box(0, 0), wire()),
	} {
		wantRefused(t, b, api.ErrPorts)
	}
}

// P5.1: up to MaxBlocks nodes.
func TestMostNodes(t *testing.T) {
	b := balanced("seq", copies(300, wire())...)
	for n := 599; n <= 603; n++ {
		if block.Size(b) != n {
			t.Fatalf("%d nodes, not %d", block.Size(b), n)
		}
		if n <= api.MaxBlocks {
			wantPorts(t, b, 1, 1)
		} else {
			wantRefused(t, b, api.ErrLimit)
		}
		b = turned("up", 1, b)
	}
	wantRefused(t, balanced("seq", copies(5000, wire())...), api.ErrLimit)
}

// P5.1: up to MaxNest deep, whichever way down.
func TestDeepest(t *testing.T) {
	for n := 2; n <= 65; n++ {
		for _, b := range []api.Block{nested(n-1, wire()), two("seq", nested(n-2, wire()), wire()), two("seq", wire(), nested(n-2, wire())), block.Chain(copies(n, wire()))} {
			if n <= api.MaxNest {
				wantPorts(t, b, 1, 1)
			} else {
				wantRefused(t, b, api.ErrLimit)
			}
		}
	}
	wantPorts(t, block.Wires(60), 60, 60)
	wantRefused(t, block.Wires(61), api.ErrLimit)
}

// P5.1: up to MaxPorts ins and outs, of each block of the tree.
func TestMostPorts(t *testing.T) {
	wantPorts(t, box(64, 64), 64, 64)
	wantPorts(t, box(64, 0), 64, 0)
	wantPorts(t, box(0, 64), 0, 64)
	for _, b := range []api.Block{
		box(65, 0), box(0, 65), box(65, 65), box(65, 1), box(1, 65), box(128, 128), two("par", box(33, 1), box(32, 1)), two("par", box(1, 32), box(1, 33)),
		one("gate", box(64, 1)), one("reset", box(64, 1)), one("gate", one("reset", box(63, 0))),
		// The whole would have fewer.
		two("seq", box(1, 65), box(65, 1)), two("split", wire(), box(65, 1)), two("merge", box(1, 65), wire()), two("rec", box(65, 65), box(64, 64)), turned("up", 1, box(65, 1)), turned("down", 2, box(1, 65)), one("gate", box(0, 65)),
	} {
		wantRefused(t, b, api.ErrLimit)
	}
	wantPorts(t, two("rec", box(64, 64), box(64, 64)), 0, 64)
	wantPorts(t, two("seq", box(1, 64), box(64, 1)), 1, 1)
}

// P5.1: which error comes first where there are two.
func TestOrderOfErrors(t *testing.T) {
	notValid := delay(-1)
	unfit := two("seq", cut(), wire())
	wide := box(65, 1)
	many := balanced("seq", copies(301, wire())...)
	deep := nested(60, wire())
	twice := two("par", show("a"), show("a"))
	for _, c := range []struct {
		b    api.Block
		want api.Errno
	}{
		{unfit, api.ErrPorts}, {wide, api.ErrLimit}, {many, api.ErrLimit}, {deep, api.ErrLimit}, {twice, api.ErrTwice}, {notValid, api.ErrArg},
		// Not valid comes ahead of all, wherever it stands.
		{two("par", unfit, notValid), api.ErrArg}, {two("par", wide, notValid), api.ErrArg}, {two("par", many, notValid), api.ErrArg}, {two("par", deep, notValid), api.ErrArg}, {two("par", twice, notValid), api.ErrArg}, {two("par", deep, nested(70, notValid)), api.ErrArg}, {nested(70, notValid), api.ErrArg}, {two("seq", notValid, leaf("add")), api.ErrArg},
		// Then the size of the whole.
		{two("par", unfit, many), api.ErrLimit}, {two("par", unfit, deep), api.ErrLimit}, {two("par", twice, deep), api.ErrLimit}, {nested(70, unfit), api.ErrLimit}, {two("seq", many, leaf("add")), api.ErrLimit}, {nested(60, twice), api.ErrLimit},
		// Then ports, kids ahead of the whole, from the left.
		{two("par", unfit, wide), api.ErrPorts}, {two("par", wide, unfit), api.ErrLimit}, {two("seq", wide, leaf("add")), api.ErrLimit}, {two("seq", leaf("neg"), wide), api.ErrLimit}, {two("seq", two("par", wire(), unfit), wide), api.ErrPorts}, {two("par", two("par", wire(), wide), unfit), api.ErrLimit}, {two("seq", two("par", box(33, 1), box(33, 1)), unfit), api.ErrLimit}, {one("gate", two("par", unfit, wide)), api.ErrPorts}, {two("rec", two("par", wire(), two("par", wide, unfit)), unfit), api.ErrLimit}, {two("par", two("seq", wire(), leaf("add")), box(65, 65)), api.ErrPorts}, {two("seq", two("par", box(64, 0), wire()), wire()), api.ErrLimit},
		// Paths at last.
		{two("seq", twice, wire()), api.ErrPorts}, {two("par", twice, unfit), api.ErrPorts}, {two("par", twice, wide), api.ErrLimit}, {two("par", two("par", twice, twice), wire()), api.ErrTwice}, {two("par", twice, two("par", box(31, 31), box(32, 32))), api.ErrLimit},
	} {
		wantRefused(t, c.b, c.want)
	}
}

// P5.1: two knobs of one path are alike, or refused.
func TestKnobsOfOnePath(t *testing.T) {
	a := control("a")
	wantPorts(t, two("par", a, a), 0, 2)
	wantPorts(t, two("par", a, two("seq", leaf("cut"), a)), 1, 2)
	wantPorts(t, two("par", a, knob("A", q(2, 1), q(0, 1), q(2, 1), q(0, 1))), 0, 2)
	for at := range 4 {
		other := control("a")
		other.Nums[at] = []api.Q{q(1, 2), q(-1, 1), q(3, 1), q(0, 1)}[at]
		wantPorts(t, other, 0, 1)
		wantRefused(t, two("par", a, other), api.ErrTwice)
		wantRefused(t, two("par", other, a), api.ErrTwice)
		wantRefused(t, two("par", two("par", a, a), turned("up", 2, one("gate", two("seq", other, leaf("neg"))))), api.ErrTwice)
		other.Name = "b"
		wantPorts(t, two("par", a, other), 0, 2)
	}
}

// P5.1: the path of a show stands in one show alone, and in no knob.
func TestPathsOfShows(t *testing.T) {
	wantPorts(t, two("par", show("a"), show("b")), 2, 2)
	wantPorts(t, two("par", show("a"), show("A")), 2, 2)
	wantPorts(t, two("par", show("a/b"), show("a")), 2, 2)
	wantPorts(t, two("par", show("a"), control("a/")), 1, 2)
	for _, b := range []api.Block{
		two("par", show("a"), show("a")), two("seq", show("a"), show("a")), two("rec", show("a"), show("a")), two("split", show("a"), show("a")), two("seq", show("a"), turned("down", 2, show("a"))), two("par", show("b"), two("par", show("a"), show("b"))),
		two("seq", control("a"), show("a")), two("par", show("a"), control("a")), two("par", control("a"), show("a")), two("par", two("par", control("a"), control("a")), show("a")), two("par", two("par", show("b"), show("a")), two("par", control("b"), control("c"))),
		one("gate", two("seq", turned("up", 3, show("a")), one("reset", two("seq", control("a"), cut())))),
	} {
		wantRefused(t, b, api.ErrTwice)
	}
}

// P5.1: the controls and the shows, in the order of places.
func TestKnobsAndShows(t *testing.T) {
	b := two("par",
		two("rec", two("par", two("seq", show("s/2"), leaf("neg")), control("k/b")), delay(1)),
		one("gate", two("par", two("seq", two("par", control("k/a"), control("k/b")), leaf("add")), two("par", show("s/1"), turned("up", 2, two("par", knob("k", q(1, 2), q(-1, 3), q(5, 1), q(0, 1)), control("k/a")))))))
	wantPorts(t, b, 2, 6)
	want := []api.Knob{
		{Path: "k/b", Init: q(1, 1), Lo: q(0, 1), Hi: q(2, 1), Step: q(1, 10)},
		{Path: "k/a", Init: q(1, 1), Lo: q(0, 1), Hi: q(2, 1), Step: q(1, 10)},
		{Path: "k", Init: q(1, 2), Lo: q(-1, 3), Hi: q(5, 1)},
	}
	want[2].Step = q(0, 1)
	if got, err := block.Knobs(b); !slices.Equal(got, want) || err != api.OK {
		t.Errorf("Knobs: got %v, %v, want %v", got, err, want)
	}
	if got, err := block.Shows(b); !slices.Equal(got, []string{"s/2", "s/1"}) || err != api.OK {
		t.Errorf("Shows: got %v, %v", got, err)
	}
	for _, b := range []api.Block{wire(), two("seq", wire(), delay(1)), show("a"), control("a")} {
		knobs, err := block.Knobs(b)
		if len(knobs) != strings.Count(b.Op, "knob") || err != api.OK {
			t.Errorf("Knobs of %s: got %v, %v", dump(b), knobs, err)
		}
		shows, err := block.Shows(b)
		if len(shows) != strings.Count(b.Op, "show") || err != api.OK {
			t.Errorf("Shows of %s: got %v, %v", dump(b), shows, err)
		}
	}
}

// P5.1: more than MaxPaths knobs and shows are no error of a diagram.
func TestManyPaths(t *testing.T) {
	var knobs, shows []api.Block
	for i := range 64 {
		knobs = append(knobs, control("k"+strconv.Itoa(i)))
		shows = append(shows, show("s"+strconv.Itoa(i)))
	}
	b := two("seq", balanced("par", knobs...), balanced("par", shows...))
	wantPorts(t, b, 0, 64)
	k, err := block.Knobs(b)
	if len(k) != 64 || k[0].Path != "k0" || k[63].Path != "k63" || err != api.OK {
		t.Errorf("Knobs: got %v, %v", k, err)
	}
	s, err := block.Shows(b)
	if len(s) != 64 || s[0] != "s0" || s[63] != "s63" || err != api.OK {
		t.Errorf("Shows: got %v, %v", s, err)
	}
}

// P5.1: drawn blocks, valid ones and spoiled ones, held against the chapter's words.
func TestDrawnBlocks(t *testing.T) {
	c := chance(1)
	seen := map[api.Errno]int{}
	for i := range 30000 {
		b := c.block(1 + c.of(5))
		if i%3 > 0 {
			b = c.fitting(2+c.of(5), c.of(4), c.of(4))
		}
		if c.of(3) == 0 {
			c.spoil(&b)
		}
		ins, outs, err := portsByWords(b)
		seen[err]++
		if err != api.OK {
			wantRefused(t, b, err)
			continue
		}
		wantPorts(t, b, ins, outs)
		checkPaths(t, b)
	}
	for _, err := range []api.Errno{api.OK, api.ErrArg, api.ErrPorts, api.ErrTwice} {
		if seen[err] < 300 {
			t.Errorf("too few of an error: %v", seen)
		}
	}
}

// checkPaths holds Knobs and Shows of a block that has ports against its places.
func checkPaths(t *testing.T, b api.Block) {
	t.Helper()
	var knobs []api.Knob
	var shows []string
	for _, place := range places(b) {
		at := pointer(&b, place)
		if at.Op == "show" {
			shows = append(shows, at.Name)
		}
		if at.Op == "knob" && !slices.ContainsFunc(knobs, func(k api.Knob) bool { return k.Path == at.Name }) {
			knobs = append(knobs, api.Knob{Path: at.Name, Init: at.Nums[0], Lo: at.Nums[1], Hi: at.Nums[2], Step: at.Nums[3]})
		}
	}
	if got, err := block.Knobs(b); !slices.Equal(got, knobs) || err != api.OK {
		t.Errorf("Knobs of %s: got %v, %v", dump(b), got, err)
	}
	if got, err := block.Shows(b); !slices.Equal(got, shows) || err != api.OK {
		t.Errorf("Shows of %s: got %v, %v", dump(b), got, err)
	}
}
