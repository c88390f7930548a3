package mean_test

import (
	"fmt"
	"maps"
	"math/big"
	"slices"

	"serinette/api"
	"serinette/block"
	"serinette/mean"
	"serinette/quant"
	"serinette/ratio"
)

// The chapter's words a second time, for the tests alone: each block is a function of what it kept and of ins, some of which are not known yet, and tells its outs, as far as they are known then, and what it keeps from then on. A rec goes round and round until all is known.

// known is a number at a port; nil: it is not known yet.
type known = *api.Q

func know(n api.Q) known { return &n }

// memory is what a block keeps: all that came (the latest first), its numbers, or its outs told last; how often it ran; and what its Kids keep.
type memory struct {
	nums []api.Q
	time int
	kids []memory
}

// begin returns what a block keeps at the beginning.
func begin(b api.Block) memory {
	var m memory
	switch b.Op {
	case "store":
		m.nums = slices.Clone(b.Nums)
	case "down", "gate":
		_, outs, _ := block.Ports(b)
		m.nums = slices.Repeat([]api.Q{q(0, 1)}, outs)
	}
	for _, kid := range b.Kids {
		m.kids = append(m.kids, begin(kid))
	}
	return m
}

// words is what all blocks of a diagram have in common: the controls, and what was told in this sample.
type words struct{ controls, told map[string]api.Q }

// run runs a sample. What it keeps then counts only if all ins are known.
func (w words) run(b api.Block, m memory, ins []known) ([]known, memory) {
	next := memory{slices.Clone(m.nums), m.time + 1, slices.Clone(m.kids)}
	kid := func(k int, ins []known) (outs []known) {
		outs, next.kids[k] = w.run(b.Kids[k], m.kids[k], ins)
		return outs
	}
	switch b.Op {
	case "par":
		i, _, _ := block.Ports(b.Kids[0])
		return slices.Concat(kid(0, ins[:i]), kid(1, ins[i:])), next
	case "seq":
		return kid(1, kid(0, ins)), next
	case "split":
		outs := kid(0, ins)
		i, _, _ := block.Ports(b.Kids[1])
		var copies []known
		for n := range i {
			copies = append(copies, outs[n%len(outs)])
		}
		return kid(1, copies), next
	case "merge":
		outs := kid(0, ins)
		i, _, _ := block.Ports(b.Kids[1])
		return kid(1, addedUp(outs, i)), next
	case "rec":
		heard, fed, _ := block.Ports(b.Kids[1])
		back := make([]known, fed)
		var outs []known
		for range fed + 1 {
			outs = kid(0, append(slices.Clone(back), ins...))
			back = kid(1, outs[:heard])
		}
		return outs, next
	case "up", "down", "gate", "reset":
		return w.runTimed(b, m, ins)
	}
	return w.runLeaf(b, m, ins)
}

// addedUp adds up what lies n apart, from the left.
func addedUp(l []known, n int) []known {
	var sums []known
	for i := range n {
		sum := know(q(0, 1))
		for k := i; k < len(l); k += n {
			if sum == nil || l[k] == nil {
				sum = nil
				continue
			}
			sum = know(ratio.Add(*sum, *l[k]))
		}
		sums = append(sums, sum)
	}
	return sums
}

// runTimed runs a sample of a part that runs at other samples than what is around it.
func (w words) runTimed(b api.Block, m memory, ins []known) ([]known, memory) {
	next := memory{slices.Clone(m.nums), m.time + 1, slices.Clone(m.kids)}
	_, n, _ := block.Ports(b)
	unknown := make([]known, n)
	isOn := func() bool { return ins[0].D != 0 && ins[0].N != 0 }
	var outs []known
	switch {
	case b.Op == "up" && b.N > 1 && slices.Contains(ins, nil), (b.Op == "gate" || b.Op == "reset") && ins[0] == nil:
		return unknown, next
	case b.Op == "up":
		for range b.N {
			outs, next.kids[0] = w.run(b.Kids[0], next.kids[0], ins)
		}
		return outs, next
	case b.Op == "reset":
		kept := m.kids[0]
		if isOn() {
			kept = begin(b.Kids[0])
		}
		outs, next.kids[0] = w.run(b.Kids[0], kept, ins[1:])
		return outs, next
	case b.Op == "down" && m.time%b.N == 0:
		outs, next.kids[0] = w.run(b.Kids[0], m.kids[0], ins)
	case b.Op == "gate" && isOn():
		outs, next.kids[0] = w.run(b.Kids[0], m.kids[0], ins[1:])
	default:
		for _, n := range m.nums {
			outs = append(outs, know(n))
		}
	}
	for i, out := range outs {
		if out != nil {
			next.nums[i] = *out
		}
	}
	return outs, next
}

// floorOf returns the greatest whole number that is not above a number.
func floorOf(n api.Q) int {
	floor := new(big.Int).Div(big.NewInt(n.N), big.NewInt(n.D))
	return int(floor.Int64())
}

// runLeaf runs a sample of a block without Kids.
func (w words) runLeaf(b api.Block, m memory, ins []known) ([]known, memory) {
	next := memory{slices.Clone(m.nums), m.time + 1, nil}
	if (b.Op == "delay" || b.Op == "vary") && ins[0] != nil {
		next.nums = slices.Insert(next.nums, 0, *ins[0])
	}
	ago := func(n int) []known {
		switch {
		case n == 0:
			return []known{ins[0]}
		case n > len(m.nums):
			return []known{know(q(0, 1))}
		}
		return []known{&m.nums[n-1]}
	}
	if b.Op == "store" {
		return w.runStore(b, m, ins)
	}
	if b.Op == "delay" {
		return ago(b.N), next
	}
	if b.Op == "vary" && ins[1] != nil && ins[1].D != 0 {
		return ago(max(b.N, min(b.M, floorOf(*ins[1])))), next
	}
	if b.Op != "vary" && slices.Contains(ins, nil) || b.Op == "vary" && ins[1] == nil {
		return []known{nil}[:outsOf(b)], next
	}
	switch b.Op {
	case "cut":
		return nil, next
	case "show":
		w.told[b.Name] = *ins[0]
	case "knob":
		return []known{know(w.controls[b.Name])}, next
	case "wave":
		return []known{&b.Nums[m.time%len(b.Nums)]}, next
	case "vary":
		return []known{{}}, next
	}
	var l []api.Q
	for _, in := range ins {
		l = append(l, *in)
	}
	return []known{know(formulaByWords(b, l))}, next
}

func outsOf(b api.Block) int {
	_, outs, _ := block.Ports(b)
	return outs
}

// runStore runs a sample of a store.
func (w words) runStore(b api.Block, m memory, ins []known) ([]known, memory) {
	next := memory{slices.Clone(m.nums), 0, nil}
	if where := ins[0]; where != nil && ins[1] != nil && where.D != 0 && floorOf(*where) >= 0 && floorOf(*where) < len(m.nums) {
		next.nums[floorOf(*where)] = *ins[1]
	}
	read := ins[2]
	if read == nil {
		return []known{nil}, next
	}
	return []known{know(placeByWords(m.nums, *read))}, next
}

// placeByWords returns what stands at a place.
func placeByWords(nums []api.Q, place api.Q) api.Q {
	if place.D == 0 {
		return api.Q{}
	}
	return nums[max(0, min(len(nums)-1, floorOf(place)))]
}

// formulaByWords returns what a block that keeps nothing makes of its ins.
func formulaByWords(b api.Block, l []api.Q) api.Q {
	switch b.Op {
	case "num":
		return b.Nums[0]
	case "wire", "show":
		return l[0]
	case "table":
		return placeByWords(b.Nums, l[0])
	case "fit":
		return quant.Fit(b.Format, l[0])
	case "not":
		return formulaByWords(leaf("pick"), []api.Q{l[0], q(1, 1), q(0, 1)})
	case "pick":
		if l[0].D == 0 {
			return api.Q{}
		}
		if l[0].N == 0 {
			return l[1]
		}
		return l[2]
	}
	if len(l) == 1 {
		return map[string]func(api.Q) api.Q{"neg": ratio.Neg, "abs": ratio.Abs, "floor": ratio.Floor, "round": ratio.Round, "frac": ratio.Frac}[b.Op](l[0])
	}
	if of, ok := map[string]func(a, b api.Q) api.Q{"add": ratio.Add, "sub": ratio.Sub, "mul": ratio.Mul, "div": ratio.Div, "mod": ratio.Mod, "min": ratio.Min, "max": ratio.Max}[b.Op]; ok {
		return of(l[0], l[1])
	}
	if slices.Contains([]string{"lt", "le", "eq", "ne"}, b.Op) {
		return ratio.Test(b.Op, l[0], l[1])
	}
	return ratio.Bits(b.Op, l[0], l[1])
}

// fraction returns a number of any size.
func fraction(n api.Q) *big.Rat { return big.NewRat(n.N, n.D) }

// floorOfFraction returns the greatest whole number that is not above a fraction.
func floorOfFraction(r *big.Rat) *big.Int { return new(big.Int).Div(r.Num(), r.Denom()) }

// bringByWords returns what setting a control to a number makes of it.
func bringByWords(k api.Knob, n api.Q) api.Q {
	lo, hi, x, step := fraction(k.Lo), fraction(k.Hi), fraction(n), fraction(k.Step)
	if x.Cmp(lo) < 0 {
		x = lo
	}
	if x.Cmp(hi) > 0 {
		x = hi
	}
	if step.Sign() > 0 {
		steps := new(big.Rat).Quo(new(big.Rat).Sub(x, lo), step)
		nearest := floorOfFraction(new(big.Rat).Add(steps, big.NewRat(1, 2)))
		// What lies just between two was rounded up.
		if new(big.Rat).Sub(new(big.Rat).SetInt(nearest), steps).Cmp(big.NewRat(1, 2)) == 0 && nearest.Bit(0) == 1 {
			nearest.Sub(nearest, big.NewInt(1))
		}
		if most := floorOfFraction(new(big.Rat).Quo(new(big.Rat).Sub(hi, lo), step)); nearest.Cmp(most) > 0 {
			nearest = most
		}
		x = new(big.Rat).Add(lo, new(big.Rat).Mul(step, new(big.Rat).SetInt(nearest)))
	}
	return ratio.Make(x.Num().Int64(), x.Denom().Int64())
}

// course is a run of a diagram by the chapter's words.
type course struct {
	block api.Block
	words words
	knobs map[string]api.Knob
	kept  memory
	time  int
}

func courseOf(b api.Block) *course {
	c := &course{b, words{map[string]api.Q{}, map[string]api.Q{}}, map[string]api.Knob{}, begin(b), 0}
	knobs, _ := block.Knobs(b)
	for _, k := range knobs {
		c.knobs[k.Path], c.words.controls[k.Path] = k, k.Init
	}
	return c
}

// set sets a control, if there is one.
func (c *course) set(path string, n api.Q) {
	if k, ok := c.knobs[path]; ok && ratio.Is(n) {
		c.words.controls[path] = bringByWords(k, n)
	}
}

// step runs a sample, and returns what comes out, and what is told by path.
func (c *course) step(ins []api.Q) ([]api.Q, []api.Told) {
	clear(c.words.told)
	var all []known
	for _, in := range ins {
		if !ratio.Is(in) {
			in = api.Q{}
		}
		all = append(all, know(in))
	}
	signals, next := c.words.run(c.block, c.kept, all)
	var outs []api.Q
	for _, out := range signals {
		if out == nil {
			panic(fmt.Sprint("an out is not known of ", dump(c.block)))
		}
		outs = append(outs, *out)
	}
	var told []api.Told
	for _, path := range slices.Sorted(maps.Keys(c.words.told)) {
		told = append(told, api.Told{At: c.time, Path: path, Value: c.words.told[path]})
	}
	c.kept = next
	c.time++
	return outs, told
}

// playByWords is Play of a diagram that is not refused.
func playByWords(b api.Block, ins [][]api.Q, l []api.Event, n int) (outs [][]api.Q, told []api.Told) {
	c := courseOf(b)
	outs = make([][]api.Q, outsOf(b))
	for t := range n {
		for _, e := range l {
			if e.At == t || e.At < 0 && t == 0 {
				c.set(e.Path, e.Value)
			}
		}
		values, more := c.step(sample(ins, t))
		for i, value := range values {
			outs[i] = append(outs[i], value)
		}
		told = append(told, more...)
	}
	return outs, told
}

// sample returns what comes in at a sample; 0 behind the end of a list.
func sample(ins [][]api.Q, t int) []api.Q {
	var l []api.Q
	for _, in := range ins {
		if t < len(in) {
			l = append(l, in[t])
		} else {
			l = append(l, q(0, 1))
		}
	}
	return l
}

// cellsByWords returns the cells of what the block at a place keeps.
func cellsByWords(b api.Block, m memory, at []int) []mean.Cell {
	var l []mean.Cell
	add := func(vals ...api.Q) { l = append(l, mean.Cell{At: slices.Clone(at), Op: b.Op, Vals: vals}) }
	last := func(n int) []api.Q { return append(m.nums, slices.Repeat([]api.Q{q(0, 1)}, n)...)[:n] }
	switch {
	case b.Op == "delay" && b.N > 0:
		add(last(b.N)...)
	case b.Op == "vary" && b.M > 0:
		add(last(b.M)...)
	case b.Op == "store", b.Op == "gate":
		add(m.nums...)
	case b.Op == "wave":
		add(q(int64(m.time%len(b.Nums)), 1))
	case b.Op == "down":
		add(append([]api.Q{q(int64(m.time%b.N), 1)}, m.nums...)...)
	}
	for k, kid := range b.Kids {
		l = append(l, cellsByWords(kid, m.kids[k], append(slices.Clip(at), k))...)
	}
	return l
}
