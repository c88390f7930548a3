package mean

import (
	"slices"

	"serinette/api"
	"serinette/ops"
)

// held is a part that does not run at each sample; meanwhile the outs of its last one are told.
type held struct {
	part part
	last []api.Q
	runs func() bool // whether it runs at this sample
}

// hold returns a part that has not run yet.
func hold(p part, runs func() bool) held {
	return held{p, zeros(len(p.outs)), runs}
}

func (h *held) give(out int) api.Q {
	if h.runs() {
		return h.part.outs[out].now()
	}
	return h.last[out]
}

func (h *held) hear() {
	if h.runs() {
		h.part.hear()
	}
}

func (h *held) goOn() {
	if h.runs() {
		h.last = valuesOf(h.part.outs)
		h.part.goOn()
	}
}

func (h *held) reset() {
	h.last = zeros(len(h.last))
	h.part.reset()
}

// gate runs its part where a number other than 0 comes in.
type gate struct {
	held
	when *signal
}

func (g *gate) isOpen() bool      { return ops.IsOn(g.when.now()) }
func (g *gate) vals() []api.Q     { return slices.Clone(g.last) }
func (g *gate) load(vals []api.Q) { g.last = vals }

// down runs its part at the first of each so many samples.
type down struct {
	held
	every, next int
}

func (d *down) isDue() bool   { return d.next == 0 }
func (d *down) vals() []api.Q { return slices.Concat([]api.Q{whole(d.next)}, d.last) }

func (d *down) load(vals []api.Q) {
	d.next, d.last = int(vals[0].N), vals[1:]
}

func (d *down) goOn() {
	d.held.goOn()
	d.next = (d.next + 1) % d.every
}

func (d *down) reset() {
	d.held.reset()
	d.next = 0
}

// reset runs its part, ahead of that back at the beginning where a number other than 0 comes in.
type reset struct {
	part
	when *signal
	once once
}

func (r *reset) begin() {
	if r.once.begins() && ops.IsOn(r.when.now()) {
		r.reset()
	}
}

func (r *reset) give(out int) api.Q {
	r.begin()
	return r.outs[out].now()
}

func (r *reset) hear() {
	r.begin()
	r.part.hear()
}

// up runs several samples of its own in one, all with the same ins. It does so as soon as something is asked for: each of its outs hangs on all of its ins, so these are there, and nothing else sees what it keeps.
type up struct {
	run   run
	ins   []*signal
	times int
	once  once
	last  []api.Q
}

func (u *up) give(out int) api.Q {
	u.hear()
	return u.last[out]
}

func (u *up) hear() {
	if !u.once.begins() {
		return
	}
	ins := valuesOf(u.ins)
	for range u.times {
		u.last = u.run.sample(ins)
	}
}

func (u *up) goOn()  {}
func (u *up) reset() { u.run.reset() }
