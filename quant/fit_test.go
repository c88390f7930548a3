package quant_test

import (
	"math/big"
	"testing"

	"serinette/api"
	"serinette/quant"
)

// fits are numbers and what they come to.
type fits []struct{ of, want api.Q }

// check holds Fit against what is written out.
func (l fits) check(t *testing.T, f api.Format) {
	t.Helper()
	for _, c := range l {
		if got := quant.Fit(f, c.of); got != c.want {
			t.Errorf("Fit(%v, %v): got %v, want %v", f, c.of, got, c.want)
		}
	}
}

// The chapter's examples 1 and 2.
func TestExamples(t *testing.T) {
	fits{{q(1, 8), q(0, 1)}, {q(3, 8), q(1, 2)}, {q(5, 1), q(7, 4)}}.check(t, fix(1, 2, "near", "sat"))
	fits{{q(5, 2), q(-3, 2)}}.check(t, fix(1, 2, "near", "wrap"))
	fits{{q(5, 1), q(4, 1)}, {q(7, 1), q(6, 1)}}.check(t, float(2, 1, "near", "sat"))
	values := map[api.Q]bool{}
	for _, v := range []api.Q{q(0, 1), q(1, 2), q(1, 1), q(3, 2), q(2, 1), q(3, 1), q(4, 1), q(6, 1)} {
		values[v], values[q(-v.N, v.D)] = true, true
	}
	for n := int64(-80); n <= 80; n++ {
		v := q(n, 8)
		if got := quant.Is(float(2, 1, "near", "sat"), v); got != values[v] {
			t.Errorf("Is(%v): got %v", v, got)
		}
	}
}

// P2.1: each Round of a fix, at halves and beside them, below 0, too.
func TestFitRounds(t *testing.T) {
	fits{
		{q(1, 8), q(0, 1)}, {q(1, 4), q(1, 4)}, {q(3, 8), q(1, 4)}, {q(31, 64), q(1, 4)}, {q(1, 3), q(1, 4)}, {q(0, 1), q(0, 1)},
		{q(-1, 8), q(-1, 4)}, {q(-1, 4), q(-1, 4)}, {q(-3, 8), q(-1, 2)}, {q(-1, 1000), q(-1, 4)}, {q(-1, 3), q(-1, 2)}, {q(-1, api.MaxNum), q(-1, 4)},
	}.check(t, fix(1, 2, "floor", "sat"))
	fits{
		{q(1, 8), q(0, 1)}, {q(3, 8), q(1, 2)}, {q(5, 8), q(1, 2)}, {q(7, 8), q(1, 1)}, {q(33, 256), q(1, 4)}, {q(31, 256), q(0, 1)}, {q(1, 3), q(1, 4)}, {q(2, 5), q(1, 2)},
		{q(-1, 8), q(0, 1)}, {q(-3, 8), q(-1, 2)}, {q(-5, 8), q(-1, 2)}, {q(-7, 8), q(-1, 1)}, {q(-33, 256), q(-1, 4)}, {q(-31, 256), q(0, 1)}, {q(-1, 3), q(-1, 4)}, {q(-2, 5), q(-1, 2)},
	}.check(t, fix(1, 2, "near", "sat"))
	fits{
		{q(1, 8), q(0, 1)}, {q(3, 8), q(1, 4)}, {q(31, 64), q(1, 4)}, {q(1, 2), q(1, 2)}, {q(1, 3), q(1, 4)},
		{q(-1, 8), q(0, 1)}, {q(-3, 8), q(-1, 4)}, {q(-31, 64), q(-1, 4)}, {q(-1, 2), q(-1, 2)}, {q(-1, 3), q(-1, 4)}, {q(-1, api.MaxNum), q(0, 1)},
	}.check(t, fix(1, 2, "zero", "sat"))
}

// P2.1: each Over of a fix, at the ends and beyond them: what is beyond is k, behind its rounding.
func TestFitOvers(t *testing.T) {
	fits{
		{q(7, 4), q(7, 4)}, {q(29, 16), q(7, 4)}, {q(15, 8), q(7, 4)}, {q(2, 1), q(7, 4)}, {q(api.MaxNum, 1), q(7, 4)},
		{q(-2, 1), q(-2, 1)}, {q(-33, 16), q(-2, 1)}, {q(-17, 8), q(-2, 1)}, {q(-9, 4), q(-2, 1)}, {q(-api.MaxNum, 1), q(-2, 1)},
	}.check(t, fix(1, 2, "near", "sat"))
	fits{
		{q(7, 4), q(7, 4)}, {q(29, 16), q(7, 4)}, {q(15, 8), none}, {q(2, 1), none}, {q(api.MaxNum, 1), none},
		{q(-2, 1), q(-2, 1)}, {q(-33, 16), q(-2, 1)}, {q(-17, 8), q(-2, 1)}, {q(-35, 16), none}, {q(-9, 4), none}, {q(-api.MaxNum, 1), none},
	}.check(t, fix(1, 2, "near", "none"))
	fits{
		{q(7, 4), q(7, 4)}, {q(29, 16), q(7, 4)}, {q(15, 8), q(-2, 1)}, {q(2, 1), q(-2, 1)}, {q(9, 4), q(-7, 4)}, {q(4, 1), q(0, 1)}, {q(6, 1), q(-2, 1)}, {q(23, 4), q(7, 4)},
		{q(-2, 1), q(-2, 1)}, {q(-17, 8), q(-2, 1)}, {q(-9, 4), q(7, 4)}, {q(-4, 1), q(0, 1)}, {q(-25, 4), q(7, 4)}, {q(-6, 1), q(-2, 1)},
		{q(api.MaxNum, 1), q(0, 1)}, {q(api.MaxNum-1, 1), q(-1, 1)}, {q(1-api.MaxNum, 1), q(1, 1)},
	}.check(t, fix(1, 2, "near", "wrap"))
	fits{{q(31, 16), q(7, 4)}, {q(-33, 16), none}, {q(-2, 1), q(-2, 1)}, {q(2, 1), none}}.check(t, fix(1, 2, "floor", "none"))
	fits{{q(31, 16), q(7, 4)}, {q(-35, 16), q(-2, 1)}, {q(-9, 4), none}, {q(2, 1), none}}.check(t, fix(1, 2, "zero", "none"))
	fits{{q(31, 16), q(7, 4)}, {q(-33, 16), q(7, 4)}, {q(-9, 4), q(7, 4)}, {q(-65, 16), q(-1, 4)}, {q(65, 16), q(0, 1)}}.check(t, fix(1, 2, "floor", "wrap"))
	// Towards 0 is towards 0 of the number itself, not of what it wraps to.
	fits{{q(-33, 16), q(-2, 1)}, {q(-65, 16), q(0, 1)}, {q(65, 16), q(0, 1)}, {q(39, 16), q(-7, 4)}, {q(-39, 16), q(7, 4)}}.check(t, fix(1, 2, "zero", "wrap"))
}

// P2.1: fix of the least and greatest sizes.
func TestFitOfTheEnds(t *testing.T) {
	const m = api.MaxNum
	fits{{q(1, 2), q(0, 1)}, {q(-1, 2), q(0, 1)}, {q(-3, 4), q(-1, 1)}, {q(3, 4), q(0, 1)}, {q(-5, 1), q(-1, 1)}}.check(t, fix(0, 0, "near", "sat"))
	fits{{q(1, 2), q(0, 1)}, {q(3, 2), q(0, 1)}, {q(3, 4), q(-1, 1)}, {q(1, 1), q(-1, 1)}, {q(-2, 1), q(0, 1)}, {q(m-1, 1), q(-1, 1)}}.check(t, fix(0, 0, "near", "wrap"))
	fits{{q(m, 1), none}, {q(m-1, 1), q(m-1, 1)}, {q(-m, 1), q(-m, 1)}, {q(m-1, 2), q(m/2, 1)}, {q(m-3, 2), q(m/2-2, 1)}}.check(t, fix(30, 0, "near", "none"))
	fits{{q(m, 1), q(-m, 1)}, {q(m-1, 1), q(m-1, 1)}, {q(-m, 1), q(-m, 1)}}.check(t, fix(30, 0, "floor", "wrap"))
	fits{{q(1, m), q(1, m)}, {q(1, m-1), q(1, m)}, {q(m-1, m), q(m-1, m)}, {q(1, 1), q(m-1, m)}, {q(-1, 1), q(-1, 1)}, {q(m-2, m-1), q(m-1, m)}, {q(m, 1), q(m-1, m)}}.check(t, fix(0, 30, "near", "sat"))
	fits{{q(1, 1), q(-1, 1)}, {q(m, 1), q(0, 1)}, {q(m-1, 2), q(-1, 2)}, {q(m, m-1), q(1-m, m)}, {q(-m, m-1), q(m-2, m)}}.check(t, fix(0, 30, "floor", "wrap"))
}

// P2.1: float, by each Round: small numbers, halves, an m that is rounded to 2^I, and the ends.
func TestFitFloat(t *testing.T) {
	fits{
		{q(0, 1), q(0, 1)}, {q(1, 4), q(0, 1)}, {q(3, 8), q(1, 2)}, {q(3, 4), q(1, 1)}, {q(5, 4), q(1, 1)}, {q(7, 4), q(2, 1)}, {q(13, 8), q(3, 2)}, {q(5, 2), q(2, 1)}, {q(7, 2), q(4, 1)}, {q(5, 1), q(4, 1)}, {q(11, 2), q(6, 1)}, {q(13, 2), q(6, 1)},
		{q(-1, 4), q(0, 1)}, {q(-3, 8), q(-1, 2)}, {q(-7, 4), q(-2, 1)}, {q(-7, 2), q(-4, 1)}, {q(-5, 1), q(-4, 1)}, {q(1, api.MaxNum), q(0, 1)}, {q(-1, api.MaxNum), q(0, 1)},
		{q(7, 1), q(6, 1)}, {q(15, 2), q(6, 1)}, {q(8, 1), q(6, 1)}, {q(-7, 1), q(-6, 1)}, {q(-8, 1), q(-6, 1)}, {q(api.MaxNum, 1), q(6, 1)}, {q(-api.MaxNum, 1), q(-6, 1)},
	}.check(t, float(2, 1, "near", "sat"))
	fits{
		{q(1, 4), q(0, 1)}, {q(7, 4), q(2, 1)}, {q(6, 1), q(6, 1)}, {q(27, 4), q(6, 1)}, {q(7, 1), none}, {q(8, 1), none}, {q(-6, 1), q(-6, 1)}, {q(-27, 4), q(-6, 1)}, {q(-7, 1), none}, {q(-8, 1), none}, {q(api.MaxNum, 1), none},
	}.check(t, float(2, 1, "near", "none"))
	fits{
		{q(1, 4), q(0, 1)}, {q(7, 4), q(3, 2)}, {q(15, 4), q(3, 1)}, {q(31, 4), q(6, 1)}, {q(8, 1), none},
		{q(-1, 4), q(-1, 2)}, {q(-1, api.MaxNum), q(-1, 2)}, {q(-7, 4), q(-2, 1)}, {q(-13, 4), q(-4, 1)}, {q(-9, 2), q(-6, 1)}, {q(-6, 1), q(-6, 1)}, {q(-25, 4), none}, {q(-31, 4), none}, {q(-8, 1), none},
	}.check(t, float(2, 1, "floor", "none"))
	fits{{q(-25, 4), q(-6, 1)}, {q(31, 4), q(6, 1)}, {q(8, 1), q(6, 1)}, {q(-8, 1), q(-6, 1)}}.check(t, float(2, 1, "floor", "sat"))
	fits{
		{q(1, 4), q(0, 1)}, {q(-1, 4), q(0, 1)}, {q(7, 4), q(3, 2)}, {q(-7, 4), q(-3, 2)}, {q(15, 4), q(3, 1)}, {q(31, 4), q(6, 1)}, {q(-31, 4), q(-6, 1)}, {q(8, 1), none}, {q(-8, 1), none},
	}.check(t, float(2, 1, "zero", "none"))
}

// P2.1: float of the least and greatest sizes.
func TestFitFloatOfTheEnds(t *testing.T) {
	const m, step = api.MaxNum, 1 << 20
	fits{{q(1, 2), q(0, 1)}, {q(3, 4), q(1, 1)}, {q(1, 1), q(1, 1)}, {q(5, 4), q(1, 1)}, {q(3, 2), none}, {q(2, 1), none}, {q(-3, 2), none}, {q(-1, 2), q(0, 1)}}.check(t, float(1, 0, "near", "none"))
	fits{{q(1, 2*step), q(0, 1)}, {q(3, 2*step), q(2, step)}, {q(3, 4*step), q(1, step)}, {q(3, 1), q(4, 1)}, {q(5, 1), q(4, 1)}, {q(step, 1), q(step, 1)}, {q(3*step/2-1, 1), q(step, 1)}, {q(3*step/2, 1), none}, {q(2*step, 1), none}}.check(t, float(1, 20, "near", "none"))
	fits{{q(1<<24, 1), q(1<<24-1, 1)}, {q(1<<25-1, 2), q(1<<24-1, 1)}, {q(-1<<24, 1), q(1-1<<24, 1)}, {q(1<<24-1, 1), q(1<<24-1, 1)}, {q(1, 2), q(0, 1)}}.check(t, float(24, 0, "near", "sat"))
	fits{{q(m, 1), none}, {q(m-1, 1), none}, {q(m-32, 1), none}, {q(m-33, 1), q(m-64, 1)}, {q(m-64, 1), q(m-64, 1)}, {q(1<<24-1, 64), q(1<<24-1, 64)}, {q(1<<25-1, 128), q(1<<18, 1)}, {q(1, 128), q(0, 1)}, {q(3, 128), q(1, 32)}}.check(t, float(24, 6, "near", "none"))
	fits{{q(m, 1), none}, {q(m-1, 1), q(m-step, 1)}, {q(-m, 1), none}, {q(1-m, 1), q(step-m, 1)}, {q(1, m), q(0, 1)}, {q(m-1, m), q(1023, 1024)}}.check(t, float(10, 20, "zero", "none"))
}

// P2.1: Fit in all formats, about their ends, and of numbers of many sizes, against numbers of any size.
func TestFitOfAll(t *testing.T) {
	some := append(edges(), draw(20, 1)...)
	for _, f := range allFormats() {
		for _, v := range some {
			if got, want := quant.Fit(f, v), fromRat(fitted(f, rat(v))); got != want {
				t.Fatalf("Fit(%v, %v): got %v, want %v", f, v, got, want)
			}
		}
	}
	for _, f := range append(someFormats(), smallFormats()...) {
		for _, v := range append(around(f), draw(100, 2)...) {
			if got, want := quant.Fit(f, v), fromRat(fitted(f, rat(v))); got != want {
				t.Fatalf("Fit(%v, %v): got %v, want %v", f, v, got, want)
			}
		}
	}
}

// P2.1: Add and Mul of numbers, written out: sums and products beyond MaxNum among them.
func TestAddAndMulNamed(t *testing.T) {
	const m = api.MaxNum
	for _, c := range []struct {
		f                  api.Format
		a, b, sum, product api.Q
	}{
		{fix(1, 2, "near", "sat"), q(1, 2), q(1, 4), q(3, 4), q(0, 1)}, {fix(1, 2, "near", "sat"), q(3, 4), q(1, 2), q(5, 4), q(1, 2)}, {fix(1, 2, "near", "sat"), q(7, 4), q(7, 4), q(7, 4), q(7, 4)},
		{fix(1, 2, "near", "wrap"), q(7, 4), q(7, 4), q(-1, 2), q(-1, 1)}, {fix(1, 2, "near", "none"), q(7, 4), q(-7, 4), q(0, 1), none}, {fix(1, 2, "floor", "none"), q(-1, 4), q(1, 4), q(0, 1), q(-1, 4)}, {fix(1, 2, "zero", "none"), q(-1, 4), q(1, 4), q(0, 1), q(0, 1)},
		{fix(1, 2, "near", "sat"), q(1, 3), q(1, 24), q(1, 2), q(0, 1)}, {fix(1, 2, "floor", "sat"), q(1, 3), q(-1, 3), q(0, 1), q(-1, 4)},
		{fix(30, 0, "near", "sat"), q(m, 1), q(m, 1), q(m-1, 1), q(m-1, 1)}, {fix(30, 0, "near", "sat"), q(-m, 1), q(m, 1), q(0, 1), q(-m, 1)}, {fix(30, 0, "near", "none"), q(m, 1), q(m, 1), none, none}, {fix(30, 0, "near", "wrap"), q(m, 1), q(m, 1), q(0, 1), q(0, 1)},
		{fix(30, 0, "near", "wrap"), q(m, 1), q(m-1, 1), q(-1, 1), q(-m, 1)}, {fix(30, 0, "near", "wrap"), q(m-1, 1), q(m-1, 1), q(-2, 1), q(1, 1)}, {fix(30, 0, "near", "wrap"), q(m-1, 1), q(1-m, 1), q(0, 1), q(-1, 1)},
		{fix(0, 30, "floor", "sat"), q(1, m), q(1, m), q(1, m/2), q(0, 1)}, {fix(0, 30, "floor", "sat"), q(-1, m), q(1, m), q(0, 1), q(-1, m)}, {fix(0, 30, "near", "sat"), q(1, 2), q(1, m), q(m/2+1, m), q(0, 1)}, {fix(0, 30, "near", "sat"), q(3, 2), q(1, m), q(m-1, m), q(1, m/2)},
		{fix(0, 30, "near", "sat"), q(1, m), q(1, m-1), q(1, m/2), q(0, 1)}, {fix(0, 30, "zero", "none"), q(m-1, m), q(1, m-1), none, q(1, m)}, {fix(0, 30, "near", "wrap"), q(m, 1), q(-m, m-1), q(m-1, m), q(m-1, m)},
		{fix(15, 15, "near", "sat"), q(1, 32771), q(1, 32779), q(1, 16384), q(0, 1)},
		{float(2, 1, "near", "sat"), q(3, 1), q(2, 1), q(4, 1), q(6, 1)}, {float(2, 1, "near", "none"), q(3, 1), q(4, 1), none, none}, {float(2, 1, "near", "none"), q(3, 2), q(1, 4), q(2, 1), q(1, 2)}, {float(2, 1, "floor", "sat"), q(-3, 2), q(3, 2), q(0, 1), q(-3, 1)},
		{float(10, 20, "near", "sat"), q(m, 1), q(m, 1), q(m-1<<20, 1), q(m-1<<20, 1)}, {float(10, 20, "near", "sat"), q(m, 1), q(-m, 1), q(0, 1), q(1<<20-m, 1)}, {float(10, 20, "near", "none"), q(m, 1), q(m, 1), none, none}, {float(10, 20, "zero", "none"), q(m, 1), q(-1, m), q(m-1<<20, 1), q(-1, 1)},
		{float(1, 20, "floor", "sat"), q(-1, m), q(1, m), q(0, 1), q(-1, 1<<20)}, {float(24, 6, "near", "sat"), q(1, 32771), q(1, 32779), q(0, 1), q(0, 1)},
	} {
		if got := quant.Add(c.f, c.a, c.b); got != c.sum {
			t.Errorf("Add(%v, %v, %v): got %v, want %v", c.f, c.a, c.b, got, c.sum)
		}
		if got := quant.Mul(c.f, c.a, c.b); got != c.product {
			t.Errorf("Mul(%v, %v, %v): got %v, want %v", c.f, c.a, c.b, got, c.product)
		}
	}
}

// P2.1: Add and Mul of numbers of all sizes, against numbers of any size.
func TestAddAndMulOfAll(t *testing.T) {
	l := append(edges(), draw(15, 3)...)
	for _, f := range someFormats() {
		for _, a := range l {
			for _, b := range l {
				if got, want := quant.Add(f, a, b), fromRat(fitted(f, new(big.Rat).Add(rat(a), rat(b)))); got != want {
					t.Fatalf("Add(%v, %v, %v): got %v, want %v", f, a, b, got, want)
				}
				if got, want := quant.Mul(f, a, b), fromRat(fitted(f, new(big.Rat).Mul(rat(a), rat(b)))); got != want {
					t.Fatalf("Mul(%v, %v, %v): got %v, want %v", f, a, b, got, want)
				}
			}
		}
	}
}
