package cause_test

import (
	"slices"

	"serinette/api"
	"serinette/block"
)

// The chapter's words a second time: all ports of a diagram as points of one graph, whose edges have delays. It has numbers of any size that drawn diagrams come to, and cuts off at the end alone.

// graph is points and the edges between them.
type graph struct{ edges [][]edge }

// edge leads to a point.
type edge struct {
	to    int
	delay int64
}

// points returns n new points.
func (g *graph) points(n int) []int {
	var l []int
	for range n {
		l = append(l, len(g.edges))
		g.edges = append(g.edges, nil)
	}
	return l
}

// join lets an edge lead from a point to another one.
func (g *graph) join(from, to int, delay int64) {
	g.edges[from] = append(g.edges[from], edge{to, delay})
}

// behind returns new points, one behind each.
func (g *graph) behind(l []int) []int {
	fresh := g.points(len(l))
	for i, p := range l {
		g.join(p, fresh[i], 0)
	}
	return fresh
}

// lay lays the ports of b, and the ways in it, a sample of which is so many samples of the whole.
func (g *graph) lay(b api.Block, sample int64) (ins, outs []int) {
	switch b.Op {
	case "up":
		if b.N == 1 {
			return g.lay(b.Kids[0], sample)
		}
		return g.layMixed(b.Kids[0])
	case "down":
		return g.lay(b.Kids[0], sample*int64(b.N))
	case "gate", "reset":
		first := g.points(1)
		ins, outs = g.lay(b.Kids[0], sample)
		outs = g.behind(outs)
		for _, out := range outs {
			g.join(first[0], out, 0)
		}
		return append(first, ins...), outs
	}
	if len(b.Kids) == 0 {
		return g.layLeaf(b, sample)
	}
	ins, outs = g.lay(b.Kids[0], sample)
	ins2, outs2 := g.lay(b.Kids[1], sample)
	switch b.Op {
	case "par":
		return append(ins, ins2...), append(outs, outs2...)
	case "rec":
		// Points of its own, so that a way around the rec is none around a rec in it.
		outs = g.behind(outs)
		for i, in := range ins2 {
			g.join(outs[i], in, 0)
		}
		for i, out := range outs2 {
			g.join(out, ins[i], 0)
		}
		return ins[len(outs2):], outs
	case "split":
		for i, in := range ins2 {
			g.join(outs[i%len(outs)], in, 0)
		}
	case "merge":
		for i := range ins2 {
			for from := i; from < len(outs); from += len(ins2) {
				g.join(outs[from], ins2[i], 0)
			}
		}
	case "seq":
		for i, out := range outs {
			g.join(out, ins2[i], 0)
		}
	}
	return ins, outs2
}

// layMixed lays ports of which each in leads to each out at once.
func (g *graph) layMixed(b api.Block) (ins, outs []int) {
	i, o, _ := block.Ports(b)
	ins, outs = g.points(i), g.points(o)
	for _, in := range ins {
		for _, out := range outs {
			g.join(in, out, 0)
		}
	}
	return ins, outs
}

// layLeaf lays a block without Kids.
func (g *graph) layLeaf(b api.Block, sample int64) (ins, outs []int) {
	if b.Op != "delay" && b.Op != "vary" && b.Op != "store" {
		return g.layMixed(b)
	}
	delays := map[string][]int{"delay": {b.N}, "vary": {b.N, 0}, "store": {1, 1, 0}}[b.Op]
	ins, outs = g.points(len(delays)), g.points(1)
	for i, n := range delays {
		g.join(ins[i], outs[0], sample*int64(n))
	}
	return ins, outs
}

// from returns the least delays from a point to all, on ways of one edge and more; -1: no way.
func (g *graph) from(start int) []int64 {
	least := slices.Repeat([]int64{-1}, len(g.edges))
	var queue []int
	reach := func(e edge, ahead int64) {
		if d := ahead + e.delay; least[e.to] < 0 || d < least[e.to] {
			least[e.to] = d
			queue = append(queue, e.to)
		}
	}
	for _, e := range g.edges[start] {
		reach(e, 0)
	}
	for len(queue) > 0 {
		p := queue[0]
		queue = queue[1:]
		for _, e := range g.edges[p] {
			reach(e, least[p])
		}
	}
	return least
}

// cutOff returns a delay as it counts.
func cutOff(d int64) int { return int(min(d, 1073741824)) }

// table returns the least delays from ins to outs, as they count.
func (g *graph) table(ins, outs []int) [][]int {
	rows := make([][]int, len(outs))
	for _, in := range ins {
		least := g.from(in)
		for k, out := range outs {
			rows[k] = append(rows[k], cutOff(least[out]))
		}
	}
	return rows
}

// byWords tells of b what the chapter's words say.
func byWords(b api.Block) string {
	if _, _, err := block.Ports(b); err != api.OK {
		return refused(err)
	}
	var loops []int
	for _, place := range places("rec", b) {
		rec := *pointer(&b, place)
		if outs := loopByWords(rec); outs != nil {
			return looped(place, outs)
		}
		loops = append(loops, leastLoopByWords(rec))
	}
	return traced(leastByWords(b), loops)
}

// leastByWords returns the least delays of b.
func leastByWords(b api.Block) [][]int {
	g := &graph{}
	return g.table(g.lay(b, 1))
}

// leastLoopByWords returns the least number of samples of a loop in a rec.
func leastLoopByWords(rec api.Block) int {
	g := &graph{}
	_, outs := g.lay(rec, 1)
	loop := int64(-1)
	for _, out := range outs {
		if d := g.from(out)[out]; d >= 0 && (loop < 0 || d < loop) {
			loop = d
		}
	}
	return cutOff(loop)
}

// loopByWords returns the outs of a loop without a delay in a rec: all ways are tried, shorter ones first, lesser numbers first.
func loopByWords(rec api.Block) []int {
	g := &graph{}
	ins, outs := g.lay(rec.Kids[0], 1)
	ins2, outs2 := g.lay(rec.Kids[1], 1)
	for i, out := range outs2 {
		g.join(out, ins[i], 0)
	}
	once := g.table(ins2, outs)
	for n := 1; n <= len(ins2); n++ {
		if l := wayAround(once, len(ins2), n, nil); l != nil {
			return l
		}
	}
	return nil
}

// wayAround returns the first way around that passes n outs and begins with these.
func wayAround(once [][]int, outs, n int, begun []int) []int {
	if len(begun) == n {
		if once[begun[0]][begun[n-1]] == 0 {
			return begun
		}
		return nil
	}
	for out := range outs {
		if len(begun) > 0 && (out <= begun[0] || slices.Contains(begun, out) || once[out][begun[len(begun)-1]] != 0) {
			continue
		}
		if l := wayAround(once, outs, n, append(slices.Clip(begun), out)); l != nil {
			return l
		}
	}
	return nil
}
