package kind

import (
	"slices"

	"serinette/api"
	"serinette/block"
	"serinette/span"
)

// part is a block of a diagram, and what was found out about it while kinds were told.
type part struct {
	block     api.Block
	ins, outs int
	kids      []*part
	isSource  bool                  // once it had none at an out, but at no in
	known     map[string][]api.Kind // of a rec: what it tells of ins of which it was asked already
}

// newPart returns a diagram that is not refused, of which nothing is told yet.
func newPart(b api.Block) *part {
	p := &part{block: b, known: map[string][]api.Kind{}}
	p.ins, p.outs, _ = block.Ports(b)
	for _, kid := range b.Kids {
		p.kids = append(p.kids, newPart(kid))
	}
	return p
}

// tell returns the kinds of the outs by those of the ins.
func (p *part) tell(ins []api.Kind) []api.Kind {
	switch len(p.kids) {
	case 2:
		return p.tellTwo(p.kids[0], p.kids[1], ins)
	case 1:
		return p.tellOne(p.kids[0], ins)
	}
	outs := tellLeaf(p.block, ins)
	// A num that is none is no source of it.
	if p.block.Op != "num" {
		p.heed(ins, outs)
	}
	return outs
}

// tellTwo is tell of a composition.
func (p *part) tellTwo(first, second *part, ins []api.Kind) []api.Kind {
	switch p.block.Op {
	case "par":
		return slices.Concat(first.tell(ins[:first.ins]), second.tell(ins[first.ins:]))
	case "rec":
		return p.tellRec(first, second, ins)
	}
	between := first.tell(ins)
	switch p.block.Op {
	case "split":
		between = slices.Repeat(between, second.ins/len(between))
	case "merge":
		between = p.sums(between, second.ins)
	}
	return second.tell(between)
}

// tellOne is tell of up, down, gate or reset.
func (p *part) tellOne(kid *part, ins []api.Kind) []api.Kind {
	switch p.block.Op {
	case "reset":
		return sampled(kid.tell(ins[1:]))
	case "gate":
		outs := sampled(kid.tell(ins[1:]))
		if isAlwaysOn(ins[0].Span) {
			return outs
		}
		// Ahead of the first sample that the Kid runs there is 0.
		for i, k := range outs {
			outs[i].Span = past(1, k.Span)
		}
		return outs
	}
	return sampled(kid.tell(ins))
}

// isAlwaysOn tells whether s is one number that is not 0.
func isAlwaysOn(s api.Span) bool {
	// The Lo of an open or Empty span has N 0, too.
	return s.Lo == s.Hi && s.Lo.N != 0 && !s.None
}

// sums returns the kinds of n sums, each of all signals that are n apart.
func (p *part) sums(signals []api.Kind, n int) []api.Kind {
	apart := make([][]api.Kind, n)
	for i, k := range signals {
		apart[i%n] = append(apart[i%n], k)
	}
	var sums []api.Kind
	for _, terms := range apart {
		sum := sumOf(terms)
		p.heed(terms, []api.Kind{sum})
		sums = append(sums, sum)
	}
	return sums
}

// sumOf returns the kind of a sum, from the left.
func sumOf(terms []api.Kind) api.Kind {
	sum := terms[0].Span
	for _, k := range terms[1:] {
		sum, _ = span.Op("add", []api.Span{sum, k.Span})
	}
	return api.Kind{Span: sum, Rate: greatest(terms)}
}

// heed notes whether none comes from here: out of what takes no none in.
func (p *part) heed(ins, outs []api.Kind) {
	if hasNone(outs) && !hasNone(ins) {
		p.isSource = true
	}
}

// hasNone tells whether one of several signals may be none.
func hasNone(l []api.Kind) bool {
	return slices.ContainsFunc(l, func(k api.Kind) bool { return k.Span.None })
}

// sources returns the places where none came from, a block ahead of its Kids; p stands at this place.
func (p *part) sources(place []int) [][]int {
	var l [][]int
	if p.isSource {
		l = append(l, slices.Clone(place))
	}
	for k, kid := range p.kids {
		l = append(l, kid.sources(append(place, k))...)
	}
	return l
}

// keeps returns how many numbers all cells have.
func (p *part) keeps() int {
	n := p.cell()
	for _, kid := range p.kids {
		n += kid.keeps()
	}
	return n
}

// cell returns how many numbers the cell of the block itself has.
func (p *part) cell() int {
	switch p.block.Op {
	case "delay":
		return p.block.N
	case "vary":
		return p.block.M
	case "store":
		return len(p.block.Nums)
	case "wave":
		return 1
	case "down":
		return 1 + p.outs
	case "gate":
		return p.outs
	}
	return 0
}
