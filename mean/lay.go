package mean

import (
	"slices"

	"serinette/api"
	"serinette/block"
	"serinette/ratio"
)

// diagram is all that plays a diagram.
type diagram struct {
	run
	controls map[string]*control
	shows    map[string]*show
	cells    []cell
}

// layDiagram lays a diagram that is not refused. It keeps b, which must not change from then on.
func layDiagram(b api.Block) *diagram {
	d := &diagram{controls: controlsOf(b), shows: map[string]*show{}}
	d.run = d.layRun(b, nil)
	return d
}

// layRun lays the diagram, or a block in it, to run by a clock of its own.
func (d *diagram) layRun(b api.Block, place []int) run {
	l := layer{diagram: d, clock: &clock{}}
	ins, _, _ := block.Ports(b)
	var all []*given
	var signals []*signal
	for range ins {
		in := &given{}
		all = append(all, in)
		signals = append(signals, l.signal(in, 0))
	}
	return run{l.layPart(b, place, signals), l.clock, all}
}

// layer lays what runs together.
type layer struct {
	diagram *diagram
	clock   *clock
	players []player // those that are not still
}

// layPart lays a part of what l lays, which runs by the same clock, but perhaps not always.
func (l *layer) layPart(b api.Block, place []int, ins []*signal) part {
	inner := layer{diagram: l.diagram, clock: l.clock}
	outs := inner.lay(b, place, ins)
	return part{outs, inner.players}
}

// lay lays the block at a place by its ins, and returns its outs.
func (l *layer) lay(b api.Block, place []int, ins []*signal) []*signal {
	switch len(b.Kids) {
	case 2:
		return l.layTwo(b, place, ins)
	case 1:
		return l.layOne(b, place, ins)
	}
	return l.layLeaf(b, place, ins)
}

// layTwo lays a composition.
func (l *layer) layTwo(b api.Block, place []int, ins []*signal) []*signal {
	first, second := b.Kids[0], b.Kids[1]
	heard, _, _ := block.Ports(second)
	switch b.Op {
	case "par":
		n := len(ins) - heard
		outs := l.lay(first, below(place, 0), ins[:n])
		return slices.Concat(outs, l.lay(second, below(place, 1), ins[n:]))
	case "rec":
		return l.layRec(first, second, place, ins)
	}
	between := l.lay(first, below(place, 0), ins)
	switch b.Op {
	case "split":
		between = slices.Repeat(between, heard/len(between))
	case "merge":
		between = l.sums(between, heard)
	}
	return l.lay(second, below(place, 1), between)
}

// below returns the place of a Kid.
func below(place []int, kid int) []int {
	return append(slices.Clip(place), kid)
}

// layRec lays a rec of two Kids.
func (l *layer) layRec(first, second api.Block, place []int, ins []*signal) []*signal {
	heard, fed, _ := block.Ports(second)
	links := make([]link, fed)
	var all []*signal
	for i := range links {
		all = append(all, l.signal(&links[i], 0))
	}
	outs := l.lay(first, below(place, 0), append(all, ins...))
	for i, s := range l.lay(second, below(place, 1), outs[:heard]) {
		links[i].back = s
	}
	return outs
}

// sums returns n sums, each of all signals that are n apart.
func (l *layer) sums(signals []*signal, n int) []*signal {
	apart := make([][]*signal, n)
	for i, s := range signals {
		apart[i%n] = append(apart[i%n], s)
	}
	var sums []*signal
	for _, terms := range apart {
		sums = append(sums, l.signal(&formula{of: ratio.Sum, ins: terms}, 0))
	}
	return sums
}

// layOne lays up, down, gate or reset.
func (l *layer) layOne(b api.Block, place []int, ins []*signal) []*signal {
	kid, placeOfKid := b.Kids[0], below(place, 0)
	_, outs, _ := block.Ports(kid)
	switch b.Op {
	case "up":
		if b.N == 1 {
			return l.lay(kid, placeOfKid, ins)
		}
		return l.signals(&up{run: l.diagram.layRun(kid, placeOfKid), ins: ins, times: b.N, once: l.newOnce()}, outs)
	case "down":
		p := &down{every: b.N}
		l.keep(p, b, place)
		p.held = hold(l.layPart(kid, placeOfKid, ins), p.isDue)
		return l.signals(p, outs)
	case "gate":
		p := &gate{when: ins[0]}
		l.keep(p, b, place)
		p.held = hold(l.layPart(kid, placeOfKid, ins[1:]), p.isOpen)
		return l.signals(p, outs)
	}
	return l.signals(&reset{part: l.layPart(kid, placeOfKid, ins[1:]), when: ins[0], once: l.newOnce()}, outs)
}

// layLeaf lays a block without Kids.
func (l *layer) layLeaf(b api.Block, place []int, ins []*signal) []*signal {
	switch b.Op {
	case "wire":
		return ins
	case "cut":
		return nil
	case "num":
		return []*signal{l.signal(&given{q: b.Nums[0]}, 0)}
	case "knob":
		return []*signal{l.signal(l.diagram.controls[b.Name], 0)}
	case "show":
		p := &show{in: ins[0]}
		l.diagram.shows[b.Name] = p
		return l.signals(p, 1)
	}
	if p, ok := keeperOf(b, ins); ok {
		l.keep(p, b, place)
		return l.signals(p, 1)
	}
	return []*signal{l.signal(&formula{of: formulaOf(b), ins: ins}, 0)}
}

// keeperOf returns what plays a block without Kids, if it keeps something.
func keeperOf(b api.Block, ins []*signal) (p keeper, ok bool) {
	switch {
	case b.Op == "delay" && b.N > 0:
		return &delay{newPast(b.N), ins[0]}, true
	case b.Op == "vary" && b.M > 0:
		return &vary{newPast(b.M), ins[0], ins[1], b.N}, true
	case b.Op == "wave":
		return &wave{nums: b.Nums}, true
	case b.Op == "store":
		return &store{b.Nums, slices.Clone(b.Nums), ins[0], ins[1], ins[2]}, true
	}
	return nil, false
}

// keep adds the cell of a block; those of its Kids are added behind it.
func (l *layer) keep(p keeper, b api.Block, place []int) {
	c := cell{keeper: p, at: place, op: b.Op}
	switch b.Op {
	case "down":
		c.places = b.N
	case "wave":
		c.places = len(b.Nums)
	}
	l.diagram.cells = append(l.diagram.cells, c)
}

// signals returns all outs of a player that is not still.
func (l *layer) signals(p player, outs int) []*signal {
	l.players = append(l.players, p)
	var signals []*signal
	for out := range outs {
		signals = append(signals, l.signal(p, out))
	}
	return signals
}

// signal returns an out of a player.
func (l *layer) signal(p player, out int) *signal {
	return &signal{once: l.newOnce(), from: p, out: out}
}

func (l *layer) newOnce() once {
	return once{clock: l.clock}
}
