package ratio_test

import (
	"math"
	"math/big"
	"math/rand"

	"serinette/api"
	"serinette/ratio"
)

// none is none itself.
var none = api.Q{}

// q returns n / d, reduced by the tests themselves, so that they do not hang on Make.
func q(n, d int64) api.Q {
	return fromRat(big.NewRat(n, d))
}

// fromRat returns an exact result as a number, or none if it is beyond MaxNum.
func fromRat(r *big.Rat) api.Q {
	limit := big.NewInt(api.MaxNum)
	if r == nil || r.Num().CmpAbs(limit) > 0 || r.Denom().Cmp(limit) > 0 {
		return none
	}
	return api.Q{N: r.Num().Int64(), D: r.Denom().Int64()}
}

// toRat returns a number exactly; nil of all else.
func toRat(v api.Q) *big.Rat {
	if v.D < 1 || v.D > api.MaxNum {
		return nil
	}
	r := big.NewRat(v.N, v.D)
	if fromRat(r) != v {
		return nil
	}
	return r
}

// notNumbers returns none and what counts as it.
func notNumbers() []api.Q {
	return []api.Q{
		none,
		{N: 2, D: 4}, {N: 2, D: 2}, {N: -3, D: 6}, {N: 0, D: 2}, {N: 0, D: -1}, {N: 0, D: api.MaxNum},
		{N: 1, D: 0}, {N: -1, D: 0}, {N: 1, D: -1}, {N: -1, D: -2},
		{N: api.MaxNum + 1, D: 1}, {N: -api.MaxNum - 1, D: 1}, {N: 1, D: api.MaxNum + 1}, {N: 1, D: -api.MaxNum},
		{N: math.MinInt64, D: 1}, {N: math.MaxInt64, D: 1}, {N: 1, D: math.MaxInt64}, {N: 1, D: math.MinInt64},
		{N: math.MinInt64, D: math.MinInt64}, {N: math.MinInt64, D: -1},
	}
}

// edges returns small numbers, and numbers at the ends of what there is.
func edges() []api.Q {
	const m = api.MaxNum
	return []api.Q{
		q(0, 1), q(1, 1), q(-1, 1), q(2, 1), q(-2, 1), q(3, 1), q(-7, 1), q(30, 1), q(31, 1), q(62, 1), q(63, 1), q(64, 1),
		q(1, 2), q(-1, 2), q(3, 2), q(-3, 2), q(5, 2), q(-5, 2), q(1, 3), q(-1, 3), q(2, 3), q(7, 4), q(-7, 4), q(1, 6),
		q(m, 1), q(-m, 1), q(m-1, 1), q(1-m, 1), q(m/2, 1), q(-m/2, 1), q(m-1, 2), q(1-m, 2), q(m-3, 4),
		q(1, m), q(-1, m), q(m-1, m), q(1-m, m), q(m, m-1), q(-m, m-1), q(1, m-1), q(1, m/2), q(2, m-1),
		q(1, 32768), q(32768, 1), q(1, 32771), q(32779, 32771), q(-32771, 32779),
	}
}

// draw returns numbers drawn from a fixed seed, of many sizes.
func draw(count int, seed int64) []api.Q {
	source := rand.New(rand.NewSource(seed))
	l := make([]api.Q, count)
	for i := range l {
		n := source.Int63n(1<<(1+source.Intn(30)) + 1)
		d := 1 + source.Int63n(1<<source.Intn(31))
		if source.Intn(2) == 0 {
			n = -n
		}
		l[i] = q(n, d)
	}
	return l
}

// values returns numbers and what counts as none.
func values() []api.Q {
	return append(append(notNumbers(), edges()...), draw(40, 1)...)
}

// numbers returns numbers alone.
func numbers() []api.Q {
	return append(edges(), draw(60, 2)...)
}

// floorOf returns the greatest whole number that is not above r.
func floorOf(r *big.Rat) *big.Rat {
	// Euclid's division rounds as told, since denominators are above 0.
	return new(big.Rat).SetInt(new(big.Int).Div(r.Num(), r.Denom()))
}

// binary returns all operations of two numbers without a further argument.
func binary() map[string]func(a, b api.Q) api.Q {
	l := map[string]func(a, b api.Q) api.Q{
		"Add": ratio.Add, "Sub": ratio.Sub, "Mul": ratio.Mul, "Div": ratio.Div, "Mod": ratio.Mod,
		"Min": ratio.Min, "Max": ratio.Max,
	}
	for _, op := range []string{"lt", "le", "eq", "ne"} {
		l["Test "+op] = func(a, b api.Q) api.Q { return ratio.Test(op, a, b) }
	}
	for _, op := range []string{"and", "or", "xor", "shl", "shr"} {
		l["Bits "+op] = func(a, b api.Q) api.Q { return ratio.Bits(op, a, b) }
	}
	return l
}

// unary returns all operations of one number without a further argument.
func unary() map[string]func(v api.Q) api.Q {
	return map[string]func(v api.Q) api.Q{
		"Neg": ratio.Neg, "Abs": ratio.Abs, "Floor": ratio.Floor, "Round": ratio.Round, "Frac": ratio.Frac,
	}
}
