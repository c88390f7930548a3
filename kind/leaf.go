package kind

import (
	"serinette/api"
	"serinette/ratio"
	"serinette/span"
)

// tellLeaf returns the kinds of the outs of a block without Kids.
func tellLeaf(b api.Block, ins []api.Kind) []api.Kind {
	if b.Op == "cut" {
		return nil
	}
	return []api.Kind{{Span: spanOf(b, spansOf(ins)), Rate: rateOf(b, ins)}}
}

// spansOf returns the spans of kinds.
func spansOf(l []api.Kind) []api.Span {
	spans := make([]api.Span, len(l))
	for i, k := range l {
		spans[i] = k.Span
	}
	return spans
}

// spanOf returns the span of the out of a block without Kids that has one.
func spanOf(b api.Block, ins []api.Span) api.Span {
	switch b.Op {
	case "wire", "show":
		return ins[0]
	case "num", "wave":
		return points(b.Nums...)
	case "fit":
		return span.Fit(b.Format, ins[0])
	case "delay":
		return past(b.N, ins[0])
	case "vary":
		return chosen(ins[1], past(b.M, ins[0]))
	case "table":
		return chosen(ins[0], points(b.Nums...))
	case "store":
		return chosen(ins[2], span.Join(points(b.Nums...), ins[1]))
	case "knob":
		return spanOfKnob(b.Nums)
	}
	s, _ := span.Op(b.Op, ins)
	return s
}

// rateOf returns the rate of the out of a block without Kids that has one.
func rateOf(b api.Block, ins []api.Kind) string {
	switch {
	case b.Op == "knob":
		return control
	case b.Op == "store", b.Op == "delay" && b.N > 0, b.Op == "vary" && b.M > 0, b.Op == "wave" && len(b.Nums) > 1:
		return sample
	}
	return greatest(ins)
}

// nothing returns the span that has neither numbers nor none.
func nothing() api.Span {
	return api.Span{Empty: true}
}

// zero returns the span of 0 alone.
func zero() api.Span {
	return span.Point(ratio.Make(0, 1))
}

// points returns the span that has these numbers.
func points(nums ...api.Q) api.Span {
	s := nothing()
	for _, q := range nums {
		s = span.Join(s, span.Point(q))
	}
	return s
}

// past returns the span of what is at most so many samples old, if it is in s: ahead of the first one there is 0.
func past(samples int, s api.Span) api.Span {
	if samples == 0 {
		return s
	}
	return span.Join(zero(), s)
}

// chosen returns the span of what is chosen from s by a number in another span: none, if that is none.
func chosen(by, s api.Span) api.Span {
	if by.Empty {
		return by
	}
	s.None = s.None || by.None
	return s
}

// spanOfKnob returns the span of a control with these numbers: Init, Lo, Hi, Step.
func spanOfKnob(nums []api.Q) api.Span {
	first, lo, hi, step := nums[0], nums[1], nums[2], nums[3]
	if step.N == 0 {
		return span.Make(lo, hi, 0)
	}
	return span.Make(lo, hi, points(first, lo, step).Den)
}
