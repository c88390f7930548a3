package block_test

import (
	"math"
	"slices"
	"testing"

	"serinette/api"
	"serinette/block"
)

// raw returns blocks of any form, most of them not valid.
func raw() []api.Block {
	return []api.Block{
		{}, {Op: "wire", Kids: copies(3, cut())}, {Op: "what", Name: "a b", N: -5, M: math.MaxInt, Nums: notNumbers(), Format: format("x", -1, 99, "y", "z"), Kids: []api.Block{{}, two("seq", cut(), wire()), {Op: "num"}}}, {Op: "up", N: 99}, {Op: "par", Kids: copies(1, leaf(""))}, {Op: "seq", Kids: []api.Block{}, Nums: []api.Q{}}, {Kids: []api.Block{{Kids: []api.Block{{Kids: []api.Block{{N: 1}}}}}}},
		two("seq", cut(), wire()), nested(100, two("rec", wire(), leaf("add"))), balanced("seq", copies(900, wire())...),
	}
}

// someBlocks returns valid and other blocks.
func someBlocks() []api.Block {
	c := chance(2)
	l := append(samples(), raw()...)
	for range 60 {
		b := c.block(5)
		l = append(l, b)
		b = copied(b)
		c.spoil(&b)
		l = append(l, b)
	}
	return l
}

// noPlaces returns places that are none of b, whose place it is told.
func noPlaces(b api.Block, place []int) [][]int {
	kids := len(pointer(&b, place).Kids)
	var l [][]int
	for _, k := range []int{-1, -2, kids, kids + 1, math.MaxInt, math.MinInt} {
		l = append(l, append(slices.Clone(place), k), append(slices.Clone(place), k, 0), append(append(slices.Clone(place), k), place...))
	}
	if len(place) > 0 {
		l = append(l, append([]int{-1 - place[0]}, place[1:]...))
	}
	return l
}

// P5.2: the block at each place, in new memory, and none at others.
func TestAt(t *testing.T) {
	for _, b := range someBlocks() {
		before := copied(b)
		for _, place := range places(b) {
			want := *pointer(&b, place)
			path := slices.Clone(place)
			got, err := block.At(b, place)
			if !same(got, want) || err != api.OK || !slices.Equal(path, place) {
				t.Errorf("At(%.200s, %v): got %.200s, %v", dump(b), place, dump(got), err)
			}
			scrambled(&got)
			for _, place := range noPlaces(b, place) {
				if got, err := block.At(b, place); !isNothing(got) || err != api.ErrArg {
					t.Errorf("At(%.200s, %v): got %.200s, %v, want ErrArg", dump(b), place, dump(got), err)
				}
			}
		}
		if !same(b, before) {
			t.Errorf("At changed %.200s to %.200s", dump(before), dump(b))
		}
		if got, err := block.At(b, nil); !same(got, b) || err != api.OK {
			t.Errorf("At(%.200s, nil): got %.200s, %v", dump(b), dump(got), err)
		}
	}
}

// P5.2: another block at each place, in new memory, and nothing at others.
func TestPut(t *testing.T) {
	c := chance(3)
	others := someBlocks()
	for _, b := range someBlocks() {
		before := copied(b)
		all := places(b)
		for range min(len(all), 20) {
			place := among(&c, all...)
			x := copied(among(&c, others...))
			want, put := copied(b), copied(x)
			*pointer(&want, place) = copied(x)
			got, err := block.Put(b, place, x)
			if !same(got, want) || err != api.OK {
				t.Errorf("Put(%.200s, %v, %.200s): got %.200s, %v", dump(b), place, dump(x), dump(got), err)
			}
			scrambled(&got)
			if !same(b, before) || !same(x, put) {
				t.Errorf("Put(%.200s, %v, %.200s) shares memory", dump(before), place, dump(put))
			}
			for _, place := range noPlaces(b, place) {
				if got, err := block.Put(b, place, x); !isNothing(got) || err != api.ErrArg {
					t.Errorf("Put(%.200s, %v, ..): got %.200s, %v, want ErrArg", dump(b), place, dump(got), err)
				}
			}
		}
	}
}

// P5.2: At and Put, written out.
func TestPlacesNamed(t *testing.T) {
	b := two("par", two("seq", num(1, 1), leaf("neg")), one("gate", two("rec", leaf("add"), delay(1))))
	for _, c := range []struct {
		place []int
		want  api.Block
	}{
		{nil, b}, {[]int{}, b}, {[]int{0}, two("seq", num(1, 1), leaf("neg"))}, {[]int{0, 0}, num(1, 1)}, {[]int{0, 1}, leaf("neg")}, {[]int{1}, b.Kids[1]}, {[]int{1, 0}, two("rec", leaf("add"), delay(1))}, {[]int{1, 0, 1}, delay(1)},
	} {
		if got, err := block.At(b, c.place); !same(got, c.want) || err != api.OK {
			t.Errorf("At %v: got %s, %v", c.place, dump(got), err)
		}
	}
	for _, place := range [][]int{{2}, {-1}, {0, 2}, {0, -1}, {0, 0, 0}, {1, 1}, {1, 0, 2}, {1, 0, 1, 0}, {0, 1, -1}, {-1, 0}, {math.MinInt}, {math.MaxInt, 0}, make([]int, 1000)} {
		if got, err := block.At(b, place); !isNothing(got) || err != api.ErrArg {
			t.Errorf("At %v: got %s, %v", place, dump(got), err)
		}
		if got, err := block.Put(b, place, wire()); !isNothing(got) || err != api.ErrArg {
			t.Errorf("Put %v: got %s, %v", place, dump(got), err)
		}
	}
	if got, err := block.Put(b, []int{1, 0, 1}, cut()); !same(got, two("par", b.Kids[0], one("gate", two("rec", leaf("add"), cut())))) || err != api.OK {
		t.Errorf("Put: got %s, %v", dump(got), err)
	}
	if got, err := block.Put(b, nil, api.Block{}); !isNothing(got) || err != api.OK {
		t.Errorf("Put of nothing: got %s, %v", dump(got), err)
	}
}

// P5.2: Size and Depth of any trees.
func TestSizeAndDepth(t *testing.T) {
	for _, c := range []struct {
		b           api.Block
		size, depth int
	}{
		{api.Block{}, 1, 1}, {wire(), 1, 1}, {numbered("table", qs(1, 2, 3)...), 1, 1}, {two("seq", cut(), wire()), 3, 2}, {one("gate", wire()), 2, 2}, {two("par", one("gate", one("gate", wire())), wire()), 5, 4}, {two("par", wire(), two("par", wire(), two("par", wire(), wire()))), 7, 4}, {api.Block{Op: "wire", Kids: copies(5, one("cut", leaf("")))}, 11, 3}, {nested(65535, wire()), 65536, 65536}, {balanced("seq", copies(1024, wire())...), 2047, 11}, {api.Block{Op: "x", Kids: copies(100000, wire())}, 100001, 2},
	} {
		if got := block.Size(c.b); got != c.size {
			t.Errorf("Size of %.200s: got %d, want %d", dump(c.b), got, c.size)
		}
		if got := block.Depth(c.b); got != c.depth {
			t.Errorf("Depth of %.200s: got %d, want %d", dump(c.b), got, c.depth)
		}
	}
	for _, b := range someBlocks() {
		all, deepest := places(b), 0
		for _, place := range all {
			deepest = max(deepest, 1+len(place))
		}
		if size, depth := block.Size(b), block.Depth(b); size != len(all) || depth != deepest {
			t.Errorf("Size, Depth of %.200s: got %d, %d, want %d, %d", dump(b), size, depth, len(all), deepest)
		}
	}
}

// P5.2: the same trees, whatever they are, and such as differ somewhere.
func TestSame(t *testing.T) {
	l := someBlocks()
	for i, a := range l {
		if !block.Same(a, copied(a)) {
			t.Errorf("%.200s is not the same", dump(a))
		}
		for _, b := range l[:i] {
			want := same(withNone(a), withNone(b))
			if block.Same(a, b) != want || block.Same(b, a) != want {
				t.Errorf("Same(%.200s, %.200s): not %v", dump(a), dump(b), want)
			}
		}
	}
	c := chance(4)
	for range 3000 {
		a := c.block(1 + c.of(5))
		b := copied(a)
		c.spoil(&b)
		if got, want := block.Same(a, b), same(withNone(a), withNone(b)); got != want {
			t.Errorf("Same(%.200s, %.200s): got %v", dump(a), dump(b), got)
		}
	}
	if !block.Same(wire(), api.Block{Op: "wire", Kids: []api.Block{}, Nums: []api.Q{}}) {
		t.Error("empty lists are not as nil ones")
	}
}

// withNone returns b with none for all that counts as it.
func withNone(b api.Block) api.Block {
	b = copied(b)
	for i, v := range b.Nums {
		if !isLowest(v) {
			b.Nums[i] = none
		}
	}
	for i, kid := range b.Kids {
		b.Kids[i] = withNone(kid)
	}
	return b
}

// P5.2: Qs that count as none are alike, and unlike all numbers.
func TestSameNumbers(t *testing.T) {
	nones := append(notNumbers(), none)
	numbers := []api.Q{q(0, 1), q(1, 1), q(-1, 1), q(1, 2), q(2, 1), q(api.MaxNum, 1), q(1, api.MaxNum), q(-api.MaxNum, api.MaxNum-1)}
	in := func(v api.Q) []api.Block {
		return []api.Block{numbered("num", v), numbered("table", q(1, 1), v), two("par", wire(), numbered("wave", v)), knob("a", v, q(0, 1), v, q(1, 1)), numbered("wire", v)}
	}
	for i, v := range append(nones, numbers...) {
		for k, w := range append(nones, numbers...) {
			want := i == k || i < len(nones) && k < len(nones)
			a, b := in(v), in(w)
			for at := range a {
				if got := block.Same(a[at], b[at]); got != want {
					t.Errorf("Same(%s, %s): got %v", dump(a[at]), dump(b[at]), got)
				}
			}
		}
	}
	if block.Same(numbered("table", none), numbered("table", none, none)) || block.Same(numbered("table", none), leaf("table")) || block.Same(numbered("table", qs(1, 2)...), numbered("table", qs(2, 1)...)) {
		t.Error("unlike lists are the same")
	}
}

// P5.2: each field counts.
func TestSameFields(t *testing.T) {
	b := api.Block{Op: "x", Name: "a", N: 1, M: 2, Nums: qs(1, 2), Format: format("fix", 1, 2, "near", "sat"), Kids: []api.Block{wire(), cut()}}
	for i, change := range []func(b *api.Block){
		func(b *api.Block) { b.Op = "y" }, func(b *api.Block) { b.Name = "b" }, func(b *api.Block) { b.N = 2 }, func(b *api.Block) { b.M = 1 }, func(b *api.Block) { b.Nums[1] = q(3, 1) }, func(b *api.Block) { b.Nums = qs(1) }, func(b *api.Block) { b.Nums = qs(1, 2, 3) }, func(b *api.Block) { b.Format.Kind = "float" }, func(b *api.Block) { b.Format.I = 2 }, func(b *api.Block) { b.Format.F = 1 }, func(b *api.Block) { b.Format.Round = "zero" }, func(b *api.Block) { b.Format.Over = "none" },
		func(b *api.Block) { b.Kids[0] = cut() }, func(b *api.Block) { b.Kids[1].N = 1 }, func(b *api.Block) { b.Kids = b.Kids[:1] }, func(b *api.Block) { b.Kids = append(b.Kids, wire()) }, func(b *api.Block) { b.Kids[0], b.Kids[1] = b.Kids[1], b.Kids[0] },
	} {
		other := copied(b)
		change(&other)
		if block.Same(b, other) || block.Same(other, b) || block.Same(two("par", b, wire()), two("par", other, wire())) || !block.Same(other, copied(other)) {
			t.Errorf("change %d is not seen: %s", i, dump(other))
		}
	}
}

// P5.2: blocks with these fields.
func TestNumLeafJoin(t *testing.T) {
	for _, v := range append(notNumbers(), none, q(0, 1), q(-1, 2), q(api.MaxNum, 1)) {
		if got := block.Num(v); !same(got, numbered("num", v)) {
			t.Errorf("Num(%v): got %s", v, dump(got))
		}
	}
	for _, op := range []string{"wire", "add", "", "what", "num", "par", "fit"} {
		if got := block.Leaf(op); !same(got, leaf(op)) {
			t.Errorf("Leaf(%q): got %s", op, dump(got))
		}
	}
	l := someBlocks()
	for i, a := range l {
		b := l[len(l)-1-i]
		for _, op := range append(joints(), "", "up", "what") {
			beforeA, beforeB := copied(a), copied(b)
			got := block.Join(op, a, b)
			if !same(got, two(op, a, b)) {
				t.Errorf("Join(%q, %.200s, %.200s): got %.200s", op, dump(a), dump(b), dump(got))
			}
			scrambled(&got)
			if !same(a, beforeA) || !same(b, beforeB) {
				t.Errorf("Join(%q, %.200s, %.200s) shares memory", op, dump(beforeA), dump(beforeB))
			}
		}
	}
}

// P5.2: rows and chains of none, of one and of more, from the left, in new memory.
func TestRowAndChain(t *testing.T) {
	for op, call := range map[string]func(l []api.Block) api.Block{"par": block.Row, "seq": block.Chain} {
		if got := call(nil); !isNothing(got) {
			t.Errorf("%s of none: got %s", op, dump(got))
		}
		if got := call([]api.Block{}); !isNothing(got) {
			t.Errorf("%s of none: got %s", op, dump(got))
		}
		a, b, c := numbered("table", qs(1, 2)...), two("rec", wire(), numbered("num", none)), delay(-3)
		for _, l := range []struct {
			l    []api.Block
			want api.Block
		}{
			{[]api.Block{a}, a}, {[]api.Block{c}, c}, {[]api.Block{{}}, api.Block{}}, {[]api.Block{a, b}, two(op, a, b)}, {[]api.Block{a, b, c}, two(op, two(op, a, b), c)}, {[]api.Block{a, a, a, a}, two(op, two(op, two(op, a, a), a), a)}, {[]api.Block{b, {}, two(op, a, b)}, two(op, two(op, b, api.Block{}), two(op, a, b))},
		} {
			before := copied(api.Block{Kids: l.l})
			got, again := call(l.l), call(l.l)
			if !same(got, l.want) {
				t.Errorf("%s of %d: got %s, want %s", op, len(l.l), dump(got), dump(l.want))
			}
			scrambled(&got)
			if !same(api.Block{Kids: l.l}, before) || !same(again, l.want) {
				t.Errorf("%s of %d shares memory", op, len(l.l))
			}
		}
		twice := call([]api.Block{a, a})
		twice.Kids[0].Nums[0] = q(99, 1)
		if !same(twice.Kids[1], a) {
			t.Errorf("%s of one block twice shares memory within", op)
		}
		if got := call(copies(10000, wire())); block.Size(got) != 19999 || block.Depth(got) != 10000 {
			t.Errorf("%s of many: %d nodes, %d deep", op, block.Size(got), block.Depth(got))
		}
	}
}

// P5.2: rows of wires.
func TestWires(t *testing.T) {
	for _, n := range []int{0, -1, -64, 65, 66, 1000, math.MinInt, math.MaxInt, 1 << 32, 1<<32 + 1} {
		if got := block.Wires(n); !isNothing(got) {
			t.Errorf("Wires(%d): got %.200s", n, dump(got))
		}
	}
	want := wire()
	for n := 1; n <= api.MaxPorts; n++ {
		got := block.Wires(n)
		if !same(got, want) {
			t.Errorf("Wires(%d): got %s", n, dump(got))
		}
		scrambled(&got)
		if !same(block.Wires(n), want) {
			t.Errorf("Wires(%d) shares memory", n)
		}
		want = two("par", want, wire())
	}
}
