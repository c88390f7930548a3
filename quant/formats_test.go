package quant_test

import (
	"math"
	"math/big"
	"math/rand"

	"serinette/api"
)

// none is none itself.
var none = api.Q{}

// q returns n / d, reduced by the tests themselves, so that they do not hang on package ratio.
func q(n, d int64) api.Q {
	return fromRat(big.NewRat(n, d))
}

// fromRat returns an exact result as a number, or none if it is beyond MaxNum.
func fromRat(r *big.Rat) api.Q {
	limit := big.NewInt(api.MaxNum)
	if r == nil || r.Num().CmpAbs(limit) > 0 || r.Denom().Cmp(limit) > 0 {
		return none
	}
	return api.Q{N: r.Num().Int64(), D: r.Denom().Int64()}
}

// rat returns a number exactly.
func rat(v api.Q) *big.Rat {
	return big.NewRat(v.N, v.D)
}

// fix and float return formats.
func fix(i, f int, round, over string) api.Format {
	return api.Format{Kind: "fix", I: i, F: f, Round: round, Over: over}
}

func float(i, f int, round, over string) api.Format {
	return api.Format{Kind: "float", I: i, F: f, Round: round, Over: over}
}

// rounds returns all Rounds.
func rounds() []string {
	return []string{"floor", "near", "zero"}
}

// ofSizes returns a fix, or a float, of these sizes with each Round and Over.
func ofSizes(kind string, i, f int) []api.Format {
	overs := []string{"sat", "none"}
	if kind == "fix" {
		overs = append(overs, "wrap")
	}
	var l []api.Format
	for _, round := range rounds() {
		for _, over := range overs {
			l = append(l, api.Format{Kind: kind, I: i, F: f, Round: round, Over: over})
		}
	}
	return l
}

// isFormat tells by the chapter's words whether the sizes are of a kind.
func isFormat(kind string, i, f int) bool {
	if kind == "fix" {
		return i >= 0 && i <= 30 && f >= 0 && f <= 30 && i+f <= 30
	}
	return kind == "float" && i >= 1 && i <= 24 && f >= 0 && f <= 20 && i+f <= 30
}

// allFormats returns all formats.
func allFormats() []api.Format {
	var l []api.Format
	for _, kind := range []string{"fix", "float"} {
		for i := range 31 {
			for f := range 31 {
				if isFormat(kind, i, f) {
					l = append(l, ofSizes(kind, i, f)...)
				}
			}
		}
	}
	return l
}

// someFormats returns formats of the least and greatest sizes, and some between.
func someFormats() []api.Format {
	var l []api.Format
	for _, s := range [][2]int{{0, 0}, {0, 1}, {1, 0}, {0, 30}, {30, 0}, {15, 15}, {1, 2}, {3, 5}, {8, 8}, {2, 28}, {29, 1}} {
		l = append(l, ofSizes("fix", s[0], s[1])...)
	}
	for _, s := range [][2]int{{1, 0}, {1, 1}, {1, 20}, {24, 0}, {24, 6}, {10, 20}, {2, 1}, {4, 3}, {2, 20}, {11, 4}} {
		l = append(l, ofSizes("float", s[0], s[1])...)
	}
	return l
}

// smallFormats returns formats with few values.
func smallFormats() []api.Format {
	var l []api.Format
	for _, s := range [][2]int{{0, 0}, {0, 1}, {1, 0}, {1, 2}, {2, 1}, {0, 3}, {3, 0}} {
		l = append(l, ofSizes("fix", s[0], s[1])...)
	}
	for _, s := range [][2]int{{1, 0}, {1, 1}, {1, 2}, {2, 0}, {2, 1}, {2, 2}, {3, 1}, {3, 0}} {
		l = append(l, ofSizes("float", s[0], s[1])...)
	}
	return l
}

// noFormats returns formats that are not valid.
func noFormats() []api.Format {
	l := []api.Format{
		{}, {I: 1, F: 2, Round: "near", Over: "sat"}, {Kind: "fix", I: 1, F: 2}, {Kind: "fix", I: 1, F: 2, Round: "near"}, {Kind: "fix", I: 1, F: 2, Over: "sat"},
		fix(-1, 2, "near", "sat"), fix(1, -1, "near", "sat"), fix(31, 0, "near", "sat"), fix(0, 31, "near", "sat"), fix(31, -1, "near", "sat"), fix(-1, 31, "near", "sat"),
		fix(30, 1, "near", "sat"), fix(1, 30, "near", "sat"), fix(16, 15, "near", "sat"), fix(30, 30, "near", "wrap"),
		fix(math.MaxInt, 0, "near", "sat"), fix(math.MinInt, 0, "near", "sat"), fix(math.MaxInt, 1, "near", "none"), fix(math.MaxInt, math.MaxInt, "near", "wrap"), fix(0, math.MinInt, "near", "sat"), fix(math.MinInt, math.MinInt, "near", "sat"),
		fix(1, 2, "up", "sat"), fix(1, 2, "Near", "sat"), fix(1, 2, "near ", "sat"), fix(1, 2, "even", "sat"), fix(1, 2, "none", "sat"), fix(1, 2, "sat", "near"), fix(1, 2, "round", "wrap"),
		fix(1, 2, "near", "clip"), fix(1, 2, "near", "SAT"), fix(1, 2, "near", " sat"), fix(1, 2, "near", "zero"), fix(1, 2, "near", "floor"),
		float(0, 2, "near", "sat"), float(0, 0, "near", "sat"), float(-1, 2, "near", "sat"), float(25, 0, "near", "sat"), float(25, 5, "near", "none"), float(1, -1, "near", "sat"), float(1, 21, "near", "sat"), float(9, 21, "near", "sat"),
		float(24, 7, "near", "sat"), float(11, 20, "near", "sat"), float(20, 11, "near", "sat"), float(24, 20, "near", "none"),
		float(math.MaxInt, 0, "near", "sat"), float(1, math.MaxInt, "near", "sat"), float(math.MinInt, 1, "near", "sat"), float(1, math.MinInt, "near", "sat"),
		float(2, 1, "up", "sat"), float(2, 1, "", "sat"), float(2, 1, "near", ""), float(2, 1, "near", "clip"),
	}
	for _, round := range rounds() {
		l = append(l, float(2, 1, round, "wrap"))
	}
	for _, kind := range []string{"Fix", "FIX", "fix ", " fix", "fixed", "fi", "Float", "floats", "int", "whole", "none"} {
		l = append(l, api.Format{Kind: kind, I: 2, F: 1, Round: "near", Over: "sat"})
	}
	return l
}

// notNumbers returns none and what counts as it.
func notNumbers() []api.Q {
	return []api.Q{
		none, {N: 2, D: 4}, {N: 0, D: 2}, {N: 2, D: 2}, {N: 1, D: 0}, {N: 0, D: -1}, {N: 1, D: -1}, {N: -1, D: -2},
		{N: api.MaxNum + 1, D: 1}, {N: -api.MaxNum - 1, D: 1}, {N: 1, D: api.MaxNum + 1},
		{N: math.MinInt64, D: 1}, {N: math.MaxInt64, D: 1}, {N: 1, D: math.MaxInt64}, {N: math.MinInt64, D: math.MinInt64}, {N: 1, D: math.MinInt64},
	}
}

// edges returns small numbers, and numbers at the ends of what there is.
func edges() []api.Q {
	const m = api.MaxNum
	return []api.Q{
		q(0, 1), q(1, 1), q(-1, 1), q(2, 1), q(-2, 1), q(1, 2), q(-1, 2), q(3, 2), q(-3, 2), q(5, 2), q(-5, 2), q(1, 3), q(-2, 3), q(7, 4), q(-7, 4), q(5, 1), q(-9, 1),
		q(m, 1), q(-m, 1), q(m-1, 1), q(1-m, 1), q(m/2, 1), q(-m/2, 1), q(m-1, 2), q(1-m, 2), q(m-3, 4), q(m/2-1, 3),
		q(1, m), q(-1, m), q(3, m), q(-3, m), q(m-1, m), q(1-m, m), q(1, m-1), q(-1, m-1), q(m, m-1), q(-m, m-1), q(1, m/2), q(-5, m/2),
	}
}

// draw returns numbers drawn from a fixed seed, of many sizes.
func draw(count int, seed int64) []api.Q {
	source := rand.New(rand.NewSource(seed))
	l := make([]api.Q, count)
	for i := range l {
		n := source.Int63n(1<<(1+source.Intn(30)) + 1)
		d := 1 + source.Int63n(1<<source.Intn(31))
		if source.Intn(2) == 0 {
			d = 1 << source.Intn(31)
		}
		if source.Intn(2) == 0 {
			n = -n
		}
		l[i] = q(n, d)
	}
	return l
}

// times returns v times 2^e.
func times(v *big.Rat, e int) *big.Rat {
	r := new(big.Rat).SetInt(new(big.Int).Lsh(big.NewInt(1), uint(max(e, -e))))
	if e < 0 {
		r.Inv(r)
	}
	return r.Mul(v, r)
}

// whole returns r rounded, as the chapter's words have it.
func whole(r *big.Rat, round string) *big.Int {
	floor := new(big.Int).Div(r.Num(), r.Denom())
	above := new(big.Int).Add(floor, big.NewInt(1))
	if r.IsInt() || round == "floor" {
		return floor
	}
	if round == "zero" {
		if r.Sign() < 0 {
			return above
		}
		return floor
	}
	rest := new(big.Rat).Sub(r, new(big.Rat).SetInt(floor))
	switch rest.Cmp(big.NewRat(1, 2)) {
	case -1:
		return floor
	case 1:
		return above
	}
	if floor.Bit(0) == 0 {
		return floor
	}
	return above
}

// fitted returns what r comes to in a valid format, by the chapter's words with numbers of any size; nil: none.
func fitted(f api.Format, r *big.Rat) *big.Rat {
	if f.Kind == "fix" {
		return fittedFix(f, r)
	}
	return fittedFloat(f, r)
}

func fittedFix(f api.Format, r *big.Rat) *big.Rat {
	k := whole(times(r, f.F), f.Round)
	least := new(big.Int).Lsh(big.NewInt(-1), uint(f.I+f.F))
	greatest := new(big.Int).Sub(new(big.Int).Neg(least), big.NewInt(1))
	if f.Over == "wrap" {
		all := new(big.Int).Lsh(big.NewInt(1), uint(f.I+f.F+1))
		k.Mod(k, all)
		if k.Cmp(greatest) > 0 {
			k.Sub(k, all)
		}
	}
	if k.Cmp(least) < 0 {
		k = least
	} else if k.Cmp(greatest) > 0 {
		k = greatest
	} else {
		return times(new(big.Rat).SetInt(k), -f.F)
	}
	if f.Over == "none" {
		return nil
	}
	return times(new(big.Rat).SetInt(k), -f.F)
}

func fittedFloat(f api.Format, r *big.Rat) *big.Rat {
	if r.Sign() == 0 {
		return new(big.Rat)
	}
	one, size := big.NewRat(1, 1), new(big.Rat).Abs(r)
	for x := -f.F; x <= f.F; x++ {
		if size.Cmp(times(one, f.I+x)) >= 0 {
			continue
		}
		m := whole(times(r, -x), f.Round)
		full := new(big.Int).Lsh(big.NewInt(1), uint(f.I))
		if m.CmpAbs(full) < 0 {
			return times(new(big.Rat).SetInt(m), x)
		}
		if x == f.F {
			break
		}
		m.Quo(m, big.NewInt(2))
		return times(new(big.Rat).SetInt(m), x+1)
	}
	if f.Over == "none" {
		return nil
	}
	end := times(new(big.Rat).Sub(times(one, f.I), one), f.F)
	if r.Sign() < 0 {
		end.Neg(end)
	}
	return end
}

// around returns numbers at, and close to, the values that f has about its ends, about 0 and about a power of 2.
func around(f api.Format) []api.Q {
	one := big.NewRat(1, 1)
	var at []*big.Rat
	if f.Kind == "fix" {
		end := times(one, f.I)
		at = append(at, end, times(end, 1), new(big.Rat).Mul(end, big.NewRat(3, 1)), times(end, -1), times(one, -f.F))
	} else {
		for x := -f.F; x <= f.F; x++ {
			at = append(at, times(one, f.I+x))
		}
		at = append(at, times(one, f.I+f.F+1), times(one, -f.F), times(new(big.Rat).Sub(times(one, f.I), one), f.F))
	}
	var l []api.Q
	for _, r := range at {
		for eighths := int64(-9); eighths <= 9; eighths++ {
			for _, x := range []int{-f.F, f.F} {
				v := new(big.Rat).Add(r, times(big.NewRat(eighths, 8), x))
				for _, v := range []api.Q{fromRat(v), fromRat(new(big.Rat).Neg(v))} {
					if v != none {
						l = append(l, v)
					}
				}
			}
		}
	}
	return l
}
