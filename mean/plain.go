package mean

import (
	"serinette/api"
	"serinette/ops"
	"serinette/quant"
	"serinette/ratio"
)

// given gives a number that it was told: what comes in, or that of a num.
type given struct {
	still
	q api.Q
}

func (g *given) give(int) api.Q { return g.q }

// link gives what comes back in a rec, whose signal is not there yet when the link is laid.
type link struct {
	still
	back *signal
}

func (l *link) give(int) api.Q { return l.back.now() }

// formula gives what a function makes of the ins of the same sample.
type formula struct {
	still
	of  func(ins []api.Q) api.Q
	ins []*signal
}

func (f *formula) give(int) api.Q { return f.of(valuesOf(f.ins)) }

// formulaOf returns what a block that keeps nothing makes of its ins; delay and vary are such blocks if they go back 0 samples.
func formulaOf(b api.Block) func(ins []api.Q) api.Q {
	switch b.Op {
	case "fit":
		return func(ins []api.Q) api.Q { return quant.Fit(b.Format, ins[0]) }
	case "table":
		return func(ins []api.Q) api.Q { return lookUp(b.Nums, ins[0]) }
	case "delay":
		return func(ins []api.Q) api.Q { return ins[0] }
	case "vary":
		return func(ins []api.Q) api.Q { return unlessNone(ins[1], ins[0]) }
	}
	return func(ins []api.Q) api.Q { return ops.Apply(b.Op, ins) }
}

// unlessNone returns q; none, if that by which it is chosen is none.
func unlessNone(by, q api.Q) api.Q {
	if !ratio.Is(by) {
		return api.Q{}
	}
	return q
}

// lookUp returns the number at the Floor of a place, brought into those that there are; none, if the place is none.
func lookUp(nums []api.Q, place api.Q) api.Q {
	return unlessNone(place, nums[within(place, 0, len(nums)-1)])
}

// within returns the Floor of a number, brought into a range; of none anything in it.
func within(q api.Q, lo, hi int) int {
	// The Floor of a number is at most MaxNum in size, which fits in any int.
	return min(max(int(ratio.Floor(q).N), lo), hi)
}

// show gives what comes in, and tells it. What it has told stays told when it goes back to the beginning.
type show struct {
	still
	in     *signal
	told   api.Q
	hasRun bool
	isNew  bool // it has run in the last sample of the diagram
}

func (s *show) give(int) api.Q { return s.in.now() }

func (s *show) hear() {
	s.told, s.hasRun, s.isNew = s.in.now(), true, true
}
