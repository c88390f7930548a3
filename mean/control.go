package mean

import (
	"serinette/api"
	"serinette/block"
	"serinette/ratio"
)

// control gives its value, in all blocks of its path.
type control struct {
	still
	knob  api.Knob
	value api.Q
}

func (c *control) give(int) api.Q { return c.value }

// set sets the control; none changes nothing.
func (c *control) set(q api.Q) {
	if ratio.Is(q) {
		c.value = brought(c.knob, q)
	}
}

// controlsOf returns the controls of a diagram, by their paths.
func controlsOf(b api.Block) map[string]*control {
	controls := map[string]*control{}
	knobs, _ := block.Knobs(b)
	for _, k := range knobs {
		controls[k.Path] = &control{knob: k, value: k.Init}
	}
	return controls
}

// Bring returns what setting the control k to q makes of it.
func Bring(k api.Knob, q api.Q) api.Q {
	switch {
	case !isControl(k):
		return api.Q{}
	case !ratio.Is(q):
		return k.Init
	}
	return brought(k, q)
}

// isControl tells whether a knob may have these numbers.
func isControl(k api.Knob) bool {
	knob := api.Block{Op: "knob", Name: "any", Nums: []api.Q{k.Init, k.Lo, k.Hi, k.Step}}
	_, _, err := block.Ports(knob)
	return err == api.OK
}

// brought returns a number brought into the range of a control, and to one of its steps.
func brought(k api.Knob, q api.Q) api.Q {
	q = ratio.Min(ratio.Max(q, k.Lo), k.Hi)
	if k.Step.N == 0 {
		return q
	}
	return onStep(k, q)
}

// onStep returns the step of a control that is nearest to q, which is in its range.
func onStep(k api.Knob, q api.Q) api.Q {
	// Over the denominator that all steps have, Lo and Hi are at most MaxNum in size, but Step need not be.
	common := k.Lo.D * ratio.Make(k.Lo.D, k.Step.D).D
	lo, step := k.Lo.N*(common/k.Lo.D), k.Step.N*(common/k.Step.D)
	if step > 2*api.MaxNum {
		return k.Lo
	}
	n, d := q.N*common-lo*q.D, q.D*step
	steps, rest := n/d, n%d
	if 2*rest > d || 2*rest == d && steps%2 == 1 {
		steps++
	}
	most := (k.Hi.N*common - lo*k.Hi.D) / (k.Hi.D * step)
	return ratio.Make(lo+min(steps, most)*step, common)
}
