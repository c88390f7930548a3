package quant_test

import (
	"math/big"
	"slices"
	"testing"

	"serinette/api"
	"serinette/quant"
)

// of returns numbers to hold the laws of f against, in order.
func of(f api.Format) []api.Q {
	l := slices.Concat(around(f), edges(), draw(60, 4))
	slices.SortFunc(l, func(a, b api.Q) int { return rat(a).Cmp(rat(b)) })
	return slices.Compact(l)
}

// isBetween tells whether v is between Least and Greatest.
func isBetween(f api.Format, v api.Q) bool {
	return rat(quant.Least(f)).Cmp(rat(v)) <= 0 && rat(v).Cmp(rat(quant.Greatest(f))) <= 0
}

// P2.3: Fit's results are values, or none; Fit of a value is it.
func TestFitGivesValues(t *testing.T) {
	for _, f := range append(someFormats(), smallFormats()...) {
		for _, v := range of(f) {
			got := quant.Fit(f, v)
			if got == none {
				if f.Over != "none" || isBetween(f, v) {
					t.Errorf("Fit(%v, %v) is none", f, v)
				}
				continue
			}
			if !quant.Is(f, got) || !isBetween(f, got) || quant.Fit(f, got) != got {
				t.Errorf("Fit(%v, %v): %v is no value", f, v, got)
			}
			if quant.Is(f, v) && got != v {
				t.Errorf("Fit(%v, %v): got %v of a value", f, v, got)
			}
		}
	}
}

// P2.3: between the ends Fit is at most a Step off (fix), near at most half of one, and not beyond Bound.
func TestFitIsClose(t *testing.T) {
	for _, f := range append(someFormats(), smallFormats()...) {
		if f.Kind == "float" {
			continue
		}
		step := rat(quant.Step(f))
		most := step
		if f.Round == "near" {
			most = times(step, -1)
		}
		bound, err := quant.Bound(f)
		if err != api.OK || bound != fromRat(most) {
			t.Errorf("Bound(%v): got %v %v", f, bound, err)
		}
		for _, v := range of(f) {
			if !isBetween(f, v) {
				continue
			}
			off := new(big.Rat).Sub(rat(quant.Fit(f, v)), rat(v))
			if off.Abs(off).Cmp(most) > 0 {
				t.Errorf("Fit(%v, %v) is %v off", f, v, off)
			}
		}
	}
}

// isOnSide tells whether a value is where the Round may take r.
func isOnSide(round string, value, r *big.Rat) bool {
	switch {
	case round == "near":
		return true
	case round == "floor" || r.Sign() > 0:
		return value.Cmp(r) <= 0
	}
	return value.Cmp(r) >= 0
}

// distance returns how far a is from b.
func distance(a, b *big.Rat) *big.Rat {
	r := new(big.Rat).Sub(a, b)
	return r.Abs(r)
}

// P2.3: between the ends Fit takes the closest value: any (near), or one on its side (floor, zero).
func TestFitTakesTheClosest(t *testing.T) {
	for _, f := range smallFormats() {
		var values []*big.Rat
		for n := int64(-512); n <= 512; n++ {
			if v := q(n, 16); quant.Is(f, v) {
				values = append(values, rat(v))
			}
		}
		for _, v := range of(f) {
			if !isBetween(f, v) {
				continue
			}
			r, got := rat(v), rat(quant.Fit(f, v))
			if !isOnSide(f.Round, got, r) {
				t.Errorf("Fit(%v, %v): got %v, on the other side", f, v, got)
			}
			for _, value := range values {
				if isOnSide(f.Round, value, r) && distance(value, r).Cmp(distance(got, r)) < 0 {
					t.Errorf("Fit(%v, %v): got %v, but %v is closer", f, v, got, value)
				}
			}
		}
	}
}

// P2.3: Fit keeps <=, but for wrap.
func TestFitKeepsOrder(t *testing.T) {
	for _, f := range append(someFormats(), smallFormats()...) {
		if f.Over == "wrap" {
			continue
		}
		last := none
		for _, v := range of(f) {
			got := quant.Fit(f, v)
			if got == none {
				continue
			}
			if last != none && rat(last).Cmp(rat(got)) > 0 {
				t.Errorf("Fit(%v, %v): got %v, less than %v of a lesser number", f, v, got, last)
			}
			last = got
		}
	}
}

// P2.3: Value of Code is q; codes are told apart.
func TestValueOfCode(t *testing.T) {
	for _, f := range append(someFormats(), smallFormats()...) {
		if f.Kind == "float" {
			continue
		}
		for _, v := range of(f) {
			v = quant.Fit(f, v)
			if v == none {
				continue
			}
			code, err := quant.Code(f, v)
			if err != api.OK || code < 0 || code >= 2<<(f.I+f.F) {
				t.Errorf("Code(%v, %v): got %d %v", f, v, code, err)
			}
			if got, err := quant.Value(f, code); got != v || err != api.OK {
				t.Errorf("Value(%v, %d): got %v %v, want %v", f, code, got, err, v)
			}
		}
	}
	for _, f := range smallFormats() {
		if f.Kind == "float" {
			continue
		}
		for code := range 2 << (f.I + f.F) {
			v, err := quant.Value(f, code)
			if got, e := quant.Code(f, v); got != code || err != api.OK || e != api.OK {
				t.Errorf("Code(Value(%v, %d)): got %d %v %v", f, code, got, err, e)
			}
		}
	}
}

// P2.3: with wrap, and Round floor or near, numbers that are 2^(I + 1) apart come to one value.
func TestWrapGoesAround(t *testing.T) {
	for _, f := range append(someFormats(), smallFormats()...) {
		if f.Over != "wrap" || f.Round == "zero" {
			continue
		}
		for _, v := range of(f) {
			next := fromRat(new(big.Rat).Add(rat(v), times(big.NewRat(1, 1), f.I+1)))
			if next == none {
				continue
			}
			if got, want := quant.Fit(f, next), quant.Fit(f, v); got != want {
				t.Errorf("Fit(%v, %v): got %v, but %v of %v", f, next, got, want, v)
			}
		}
	}
}

// P2.1, P2.3: Add and Mul are Fit of the exact result where that is a number; both commute.
func TestAddAndMulFit(t *testing.T) {
	l := append(edges(), draw(20, 5)...)
	for _, f := range smallFormats() {
		for _, a := range l {
			for _, b := range l {
				sum, product := quant.Add(f, a, b), quant.Mul(f, a, b)
				if sum != quant.Add(f, b, a) || product != quant.Mul(f, b, a) {
					t.Errorf("%v: a sum or product of %v and %v does not commute", f, a, b)
				}
				if exact := fromRat(new(big.Rat).Add(rat(a), rat(b))); exact != none && sum != quant.Fit(f, exact) {
					t.Errorf("Add(%v, %v, %v): got %v", f, a, b, sum)
				}
				if exact := fromRat(new(big.Rat).Mul(rat(a), rat(b))); exact != none && product != quant.Fit(f, exact) {
					t.Errorf("Mul(%v, %v, %v): got %v", f, a, b, product)
				}
			}
		}
	}
}
