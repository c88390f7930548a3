// Package ops tells what the ops from neg to pick make of numbers. It is no layer by itself: the layers whose blocks have these ops share it.
package ops

import (
	"serinette/api"
	"serinette/ratio"
)

// Apply returns what an op from neg to pick makes of its ins; none, if it is no such op, or has another number of ins.
func Apply(op string, ins []api.Q) api.Q {
	switch len(ins) {
	case 1:
		return ofOne(op, ins[0])
	case 2:
		return ofTwo(op, ins[0], ins[1])
	case 3:
		if op == "pick" {
			return picked(ins[0], ins[1], ins[2])
		}
	}
	return api.Q{}
}

// IsOn tells whether q, which may be none, is a number that is not 0.
func IsOn(q api.Q) bool {
	return ratio.Is(q) && q.N != 0
}

// Clean returns q, or the one none there is, if q counts as none.
func Clean(q api.Q) api.Q {
	if !ratio.Is(q) {
		return api.Q{}
	}
	return q
}

// ofOne returns what an op makes of one number.
func ofOne(op string, q api.Q) api.Q {
	switch op {
	case "neg":
		return ratio.Neg(q)
	case "abs":
		return ratio.Abs(q)
	case "floor":
		return ratio.Floor(q)
	case "round":
		return ratio.Round(q)
	case "frac":
		return ratio.Frac(q)
	case "not":
		return ratio.Test("eq", q, api.Q{D: 1})
	}
	return api.Q{}
}

// ofTwo returns what an op makes of two numbers.
func ofTwo(op string, a, b api.Q) api.Q {
	switch op {
	case "add":
		return ratio.Add(a, b)
	case "sub":
		return ratio.Sub(a, b)
	case "mul":
		return ratio.Mul(a, b)
	case "div":
		return ratio.Div(a, b)
	case "mod":
		return ratio.Mod(a, b)
	case "min":
		return ratio.Min(a, b)
	case "max":
		return ratio.Max(a, b)
	case "lt", "le", "eq", "ne":
		return ratio.Test(op, a, b)
	}
	return ratio.Bits(op, a, b)
}

// picked returns a if s is 0, else b, whatever the other one is.
func picked(s, a, b api.Q) api.Q {
	switch {
	case !ratio.Is(s):
		return api.Q{}
	case s.N == 0:
		return Clean(a)
	}
	return Clean(b)
}
