package quant

import (
	"math/bits"

	"serinette/api"
	"serinette/ratio"
)

// exact is n / d, not bounded by MaxNum and not always in lowest terms: a number, or a sum or product of two. So n is at most 2^61 in size, and d from 1 to 2^60.
type exact struct{ n, d int64 }

// Fit returns the value that q comes to.
func Fit(f api.Format, q api.Q) api.Q {
	if !ratio.Is(q) {
		return api.Q{}
	}
	return fit(f, exact{q.N, q.D})
}

// Add returns the exact sum, fitted.
func Add(f api.Format, a, b api.Q) api.Q {
	if !ratio.Is(a) || !ratio.Is(b) {
		return api.Q{}
	}
	return fit(f, exact{a.N*b.D + b.N*a.D, a.D * b.D})
}

// Mul returns the exact product, fitted.
func Mul(f api.Format, a, b api.Q) api.Q {
	if !ratio.Is(a) || !ratio.Is(b) {
		return api.Q{}
	}
	return fit(f, exact{a.N * b.N, a.D * b.D})
}

// fit returns the value that v comes to.
func fit(f api.Format, v exact) api.Q {
	if !Valid(f) {
		return api.Q{}
	}
	if f.Kind == "float" {
		return fitFloat(f, v)
	}
	return fitFix(f, v)
}

// fitFix returns k steps, k being rounded.
func fitFix(f api.Format, v exact) api.Q {
	if !v.isBelow(f.I + 1) {
		if f.Over != "wrap" {
			return beyond(f, v)
		}
		// All ks, taken twice, are passed over. What is left has the sign of v, and so is rounded as v.
		v.n %= v.d << (f.I + 1)
	}
	k := v.rounded(f.F, f.Round)
	if f.Over == "wrap" {
		k = (k+half(f))&(2*half(f)-1) - half(f)
	}
	if k < -half(f) || k >= half(f) {
		return beyond(f, v)
	}
	return steps(f, k)
}

// fitFloat returns m times 2^x for the least x, m being rounded.
func fitFloat(f api.Format, v exact) api.Q {
	x := -f.F
	for !v.isBelow(f.I + x) {
		if x == f.F {
			return beyond(f, v)
		}
		x++
	}
	m := v.rounded(-x, f.Round)
	// 2^I at another x than the last is the same value as 2^(I - 1) at the next.
	if x == f.F && max(m, -m) == 1<<f.I {
		return beyond(f, v)
	}
	return power(m, x)
}

// beyond returns what a number beyond the ends comes to, if it does not wrap.
func beyond(f api.Format, v exact) api.Q {
	switch {
	case f.Over == "none":
		return api.Q{}
	case v.n < 0:
		return Least(f)
	}
	return Greatest(f)
}

// size returns n without its sign.
func (v exact) size() uint64 {
	return uint64(max(v.n, -v.n))
}

// isBelow tells whether v is below 2^e in size. It shifts down alone, where nothing is lost that decides.
func (v exact) isBelow(e int) bool {
	if e < 0 {
		return v.size() <= uint64(v.d-1)>>-e
	}
	return v.size()>>e < uint64(v.d)
}

// rounded returns v times 2^e as a whole number, which must fit in an int64; with e below 0 it must be at least 1 in size, so that d times 2^-e is not above n.
func (v exact) rounded(e int, round string) int64 {
	d := uint64(v.d) << max(0, -e)
	high, low := bits.Mul64(v.size(), 1<<max(0, e))
	k, rest := bits.Div64(high, low, d)
	switch {
	case round == "floor" && v.n < 0 && rest > 0:
		k++
	case round == "near" && (2*rest > d || 2*rest == d && k%2 == 1):
		k++
	}
	if v.n < 0 {
		return -int64(k)
	}
	return int64(k)
}
