package quant_test

import (
	"math/big"
	"testing"

	"serinette/api"
	"serinette/quant"
)

// P2.1: Valid, for all sizes about the ranges.
func TestValid(t *testing.T) {
	for _, kind := range []string{"fix", "float"} {
		for i := -2; i <= 33; i++ {
			for f := -2; f <= 33; f++ {
				for _, format := range ofSizes(kind, i, f) {
					if got, want := quant.Valid(format), isFormat(kind, i, f); got != want {
						t.Errorf("Valid(%v): got %v", format, got)
					}
				}
			}
		}
	}
	for _, f := range noFormats() {
		if quant.Valid(f) {
			t.Errorf("Valid(%v) is true", f)
		}
	}
}

// P2.1: what is told of a format that is not valid.
func TestNotValid(t *testing.T) {
	for _, f := range noFormats() {
		for _, v := range append(notNumbers(), q(0, 1), q(1, 1), q(-1, 2), q(api.MaxNum, 1), q(1, api.MaxNum)) {
			if got := quant.Fit(f, v); got != none {
				t.Errorf("Fit(%v, %v): got %v", f, v, got)
			}
			if quant.Is(f, v) {
				t.Errorf("Is(%v, %v) is true", f, v)
			}
			if got := quant.Add(f, v, q(0, 1)); got != none {
				t.Errorf("Add(%v, %v, 0): got %v", f, v, got)
			}
			if got := quant.Mul(f, q(1, 1), v); got != none {
				t.Errorf("Mul(%v, 1, %v): got %v", f, v, got)
			}
			if got, err := quant.Code(f, v); got != 0 || err != api.ErrArg {
				t.Errorf("Code(%v, %v): got %v %v", f, v, got, err)
			}
		}
		for _, got := range []api.Q{quant.Least(f), quant.Greatest(f), quant.Step(f)} {
			if got != none {
				t.Errorf("an end or the Step of %v: got %v", f, got)
			}
		}
		if got, err := quant.Bound(f); got != none || err != api.ErrArg {
			t.Errorf("Bound(%v): got %v %v", f, got, err)
		}
		for _, code := range []int{0, 1, -1} {
			if got, err := quant.Value(f, code); got != none || err != api.ErrArg {
				t.Errorf("Value(%v, %d): got %v %v", f, code, got, err)
			}
		}
		if got := quant.Text(f); got != "" {
			t.Errorf("Text(%v): got %q", f, got)
		}
	}
}

// P2.1: Least, Greatest and Step, written out.
func TestEndsNamed(t *testing.T) {
	const m = api.MaxNum
	for _, c := range []struct {
		f                     api.Format
		least, greatest, step api.Q
	}{
		{fix(1, 2, "near", "sat"), q(-2, 1), q(7, 4), q(1, 4)}, {fix(0, 0, "near", "wrap"), q(-1, 1), q(0, 1), q(1, 1)},
		{fix(30, 0, "zero", "none"), q(-m, 1), q(m-1, 1), q(1, 1)}, {fix(0, 30, "floor", "sat"), q(-1, 1), q(m-1, m), q(1, m)},
		{fix(15, 15, "near", "wrap"), q(-32768, 1), q(m-1, 32768), q(1, 32768)}, {fix(0, 1, "floor", "none"), q(-1, 1), q(1, 2), q(1, 2)},
		{float(2, 1, "near", "sat"), q(-6, 1), q(6, 1), q(1, 2)}, {float(1, 0, "near", "none"), q(-1, 1), q(1, 1), q(1, 1)},
		{float(1, 20, "zero", "sat"), q(-1<<20, 1), q(1<<20, 1), q(1, 1<<20)}, {float(24, 0, "floor", "sat"), q(1-1<<24, 1), q(1<<24-1, 1), q(1, 1)},
		{float(24, 6, "near", "sat"), q(64-m, 1), q(m-64, 1), q(1, 64)}, {float(10, 20, "near", "none"), q(1<<20-m, 1), q(m-1<<20, 1), q(1, 1<<20)},
	} {
		if got := quant.Least(c.f); got != c.least {
			t.Errorf("Least(%v): got %v, want %v", c.f, got, c.least)
		}
		if got := quant.Greatest(c.f); got != c.greatest {
			t.Errorf("Greatest(%v): got %v, want %v", c.f, got, c.greatest)
		}
		if got := quant.Step(c.f); got != c.step {
			t.Errorf("Step(%v): got %v, want %v", c.f, got, c.step)
		}
	}
}

// P2.1: Least, Greatest and Step of all formats, by the chapter's words.
func TestEndsOfAll(t *testing.T) {
	one := big.NewRat(1, 1)
	for _, f := range allFormats() {
		step := times(one, -f.F)
		least := times(big.NewRat(-1, 1), f.I)
		greatest := new(big.Rat).Sub(times(one, f.I), step)
		if f.Kind == "float" {
			greatest = times(new(big.Rat).Sub(times(one, f.I), one), f.F)
			least = new(big.Rat).Neg(greatest)
		}
		if got := quant.Least(f); got != fromRat(least) {
			t.Errorf("Least(%v): got %v", f, got)
		}
		if got := quant.Greatest(f); got != fromRat(greatest) {
			t.Errorf("Greatest(%v): got %v", f, got)
		}
		if got := quant.Step(f); got != fromRat(step) {
			t.Errorf("Step(%v): got %v", f, got)
		}
	}
}

// P2.1: Bound: of fix alone; half of the finest Step is no number.
func TestBound(t *testing.T) {
	for _, f := range allFormats() {
		got, err := quant.Bound(f)
		if f.Kind == "float" {
			if got != none || err != api.ErrArg {
				t.Errorf("Bound(%v): got %v %v", f, got, err)
			}
			continue
		}
		want := times(big.NewRat(1, 1), -f.F)
		if f.Round == "near" {
			want = times(want, -1)
		}
		if got != fromRat(want) || err != api.OK {
			t.Errorf("Bound(%v): got %v %v", f, got, err)
		}
	}
	if got, err := quant.Bound(fix(1, 2, "near", "wrap")); got != q(1, 8) || err != api.OK {
		t.Errorf("near: got %v %v", got, err)
	}
	if got, err := quant.Bound(fix(1, 2, "zero", "none")); got != q(1, 4) || err != api.OK {
		t.Errorf("zero: got %v %v", got, err)
	}
	if got, err := quant.Bound(fix(0, 29, "near", "sat")); got != q(1, api.MaxNum) || err != api.OK {
		t.Errorf("half of a Step of 2^-29: got %v %v", got, err)
	}
	if got, err := quant.Bound(fix(0, 30, "near", "sat")); got != none || err != api.OK {
		t.Errorf("half of a Step of 2^-30: got %v %v", got, err)
	}
}

// P2.1: Is: the values of small formats, each written out by its k, or its m and x.
func TestIsOfSmallFormats(t *testing.T) {
	for _, f := range smallFormats() {
		values := map[api.Q]bool{}
		if f.Kind == "fix" {
			for k := int64(-1) << (f.I + f.F); k < 1<<(f.I+f.F); k++ {
				values[q(k, 1<<f.F)] = true
			}
		} else {
			for m := int64(0); m < 1<<f.I; m++ {
				for x := range f.F + 1 {
					values[q(m<<x, 1)], values[q(-m<<x, 1)] = true, true
					values[q(m, 1<<x)], values[q(-m, 1<<x)] = true, true
				}
			}
		}
		seen := map[api.Q]bool{}
		for n := int64(-400); n <= 400; n++ {
			v := q(n, 16)
			seen[v] = true
			if got := quant.Is(f, v); got != values[v] {
				t.Errorf("Is(%v, %v): got %v", f, v, got)
			}
		}
		for v := range values {
			if !seen[v] {
				t.Errorf("the value %v of %v was passed over", v, f)
			}
		}
	}
}

// P2.1: Is at the bounds of formats, and of numbers.
func TestIsNamed(t *testing.T) {
	const m = api.MaxNum
	for _, c := range []struct {
		f    api.Format
		v    api.Q
		want bool
	}{
		{fix(30, 0, "near", "wrap"), q(-m, 1), true}, {fix(30, 0, "near", "wrap"), q(m-1, 1), true}, {fix(30, 0, "near", "wrap"), q(m, 1), false}, {fix(30, 0, "near", "wrap"), q(1, 2), false},
		{fix(0, 30, "near", "sat"), q(1, m), true}, {fix(0, 30, "near", "sat"), q(m-1, m), true}, {fix(0, 30, "near", "sat"), q(-1, 1), true}, {fix(0, 30, "near", "sat"), q(1, 1), false}, {fix(0, 30, "near", "sat"), q(1, m-1), false},
		{fix(1, 2, "floor", "none"), q(1, 3), false}, {fix(1, 2, "floor", "none"), q(2, 1), false}, {fix(1, 2, "floor", "none"), q(-2, 1), true}, {fix(1, 2, "floor", "none"), q(-9, 4), false}, {fix(1, 2, "floor", "none"), q(1, 8), false},
		{float(24, 6, "near", "sat"), q(m-64, 1), true}, {float(24, 6, "near", "sat"), q(m, 1), false}, {float(24, 6, "near", "sat"), q(m-32, 1), false}, {float(24, 6, "near", "sat"), q(1<<24-1, 1), true}, {float(24, 6, "near", "sat"), q(1<<24+1, 1), false}, {float(24, 6, "near", "sat"), q(1<<24+2, 1), true},
		{float(24, 6, "near", "sat"), q(1<<24-1, 64), true}, {float(24, 6, "near", "sat"), q(1<<24+1, 64), false}, {float(24, 6, "near", "sat"), q(1, 128), false},
		{float(1, 20, "zero", "none"), q(1, 1<<20), true}, {float(1, 20, "zero", "none"), q(-1<<20, 1), true}, {float(1, 20, "zero", "none"), q(3, 1<<20), false}, {float(1, 20, "zero", "none"), q(1, 1<<21), false}, {float(1, 20, "zero", "none"), q(1<<21, 1), false},
	} {
		if got := quant.Is(c.f, c.v); got != c.want {
			t.Errorf("Is(%v, %v): got %v", c.f, c.v, got)
		}
	}
}

// P2.1: none, and a Q that counts as none, is no value, and makes none.
func TestNone(t *testing.T) {
	for _, f := range someFormats() {
		for _, v := range notNumbers() {
			if quant.Is(f, v) {
				t.Errorf("Is(%v, %v) is true", f, v)
			}
			if got := quant.Fit(f, v); got != none {
				t.Errorf("Fit(%v, %v): got %v", f, v, got)
			}
			for _, w := range append(notNumbers(), q(0, 1), q(1, 1)) {
				for _, got := range []api.Q{quant.Add(f, v, w), quant.Add(f, w, v), quant.Mul(f, v, w), quant.Mul(f, w, v)} {
					if got != none {
						t.Errorf("a sum or product of %v and %v in %v: got %v", v, w, f, got)
					}
				}
			}
		}
	}
}
