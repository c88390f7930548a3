package ratio_test

import (
	"testing"

	"serinette/api"
	"serinette/ratio"
)

// hold reports a law that does not hold of what stands behind it, unless a none has come.
func hold(t *testing.T, law string, left, right api.Q, of ...api.Q) {
	t.Helper()
	if left != none && right != none && left != right {
		t.Errorf("%s of %v: %v and %v", law, of, left, right)
	}
}

// few returns numbers whose sums and products are numbers, and some whose are not.
func few() []api.Q {
	const m = api.MaxNum
	return append(draw(14, 5), q(0, 1), q(1, 1), q(-1, 1), q(1, 2), q(-2, 3), q(5, 4), q(-7, 6), q(100, 1), q(m, 1), q(1, m), q(m-1, m))
}

// P1.4: Add and Mul are commutative and associative, Mul distributes.
func TestAddAndMul(t *testing.T) {
	exact := 0
	for _, a := range few() {
		for _, b := range few() {
			sum, product := ratio.Add(a, b), ratio.Mul(a, b)
			hold(t, "Add commutes", sum, ratio.Add(b, a), a, b)
			hold(t, "Mul commutes", product, ratio.Mul(b, a), a, b)
			for _, c := range few() {
				hold(t, "Add associates", ratio.Add(sum, c), ratio.Add(a, ratio.Add(b, c)), a, b, c)
				hold(t, "Mul associates", ratio.Mul(product, c), ratio.Mul(a, ratio.Mul(b, c)), a, b, c)
				spread := ratio.Add(ratio.Mul(c, a), ratio.Mul(c, b))
				hold(t, "Mul distributes", ratio.Mul(c, sum), spread, a, b, c)
				if spread != none {
					exact++
				}
			}
		}
	}
	if exact < 500 {
		t.Errorf("only %d triples without a none", exact)
	}
}

// P1.4: a number less itself is 0, by itself 1.
func TestLessAndByItself(t *testing.T) {
	for _, a := range numbers() {
		if got := ratio.Sub(a, a); got != q(0, 1) {
			t.Errorf("%v less itself: %v", a, got)
		}
		if got := ratio.Add(a, ratio.Neg(a)); got != q(0, 1) {
			t.Errorf("%v and its opposite: %v", a, got)
		}
		if got := ratio.Div(a, a); a != q(0, 1) && got != q(1, 1) {
			t.Errorf("%v by itself: %v", a, got)
		}
	}
}

// P1.4: Cmp is a total order.
func TestCmpIsATotalOrder(t *testing.T) {
	l := append(append(few(), none, api.Q{N: 2, D: 4}), draw(8, 6)...)
	for _, a := range l {
		for _, b := range l {
			if ratio.Cmp(a, b) != -ratio.Cmp(b, a) {
				t.Errorf("Cmp of %v and %v is not that of %v and %v turned", a, b, b, a)
			}
			if same := a == b || !ratio.Is(a) && !ratio.Is(b); same != (ratio.Cmp(a, b) == 0) {
				t.Errorf("Cmp(%v, %v) is %d", a, b, ratio.Cmp(a, b))
			}
			for _, c := range l {
				if ratio.Cmp(a, b) <= 0 && ratio.Cmp(b, c) <= 0 && ratio.Cmp(a, c) > 0 {
					t.Errorf("%v, %v, %v are not in one order", a, b, c)
				}
			}
		}
	}
}

// P1.4: Add of a number keeps the order.
func TestAddKeepsTheOrder(t *testing.T) {
	for _, a := range few() {
		for _, b := range few() {
			for _, c := range few() {
				left, right := ratio.Add(a, c), ratio.Add(b, c)
				if left != none && right != none && ratio.Cmp(left, right) != ratio.Cmp(a, b) {
					t.Errorf("Add of %v turns %v and %v", c, a, b)
				}
			}
		}
	}
}

// P1.4: Floor(q) <= q < Floor(q) + 1; q is Floor and Frac.
func TestFloorAndFrac(t *testing.T) {
	for _, a := range numbers() {
		floor, frac := ratio.Floor(a), ratio.Frac(a)
		if floor.D != 1 || ratio.Cmp(floor, a) > 0 {
			t.Errorf("Floor(%v) is %v", a, floor)
		}
		if next := ratio.Add(floor, q(1, 1)); next != none && ratio.Cmp(a, next) >= 0 {
			t.Errorf("%v is not below Floor and 1, %v", a, next)
		}
		if ratio.Cmp(frac, q(0, 1)) < 0 || ratio.Cmp(frac, q(1, 1)) >= 0 {
			t.Errorf("Frac(%v) is %v", a, frac)
		}
		if got := ratio.Add(floor, frac); got != a {
			t.Errorf("Floor and Frac of %v: %v", a, got)
		}
	}
}

// P1.4: Mod(a, b) is between 0 and b, b itself not; a less it is a whole number of times b.
func TestModIsWithin(t *testing.T) {
	for _, a := range numbers() {
		for _, b := range numbers() {
			rest := ratio.Mod(a, b)
			if rest == none {
				continue
			}
			zero := q(0, 1)
			within := ratio.Cmp(zero, rest) <= 0 && ratio.Cmp(rest, b) < 0
			if ratio.Cmp(b, zero) < 0 {
				within = ratio.Cmp(b, rest) < 0 && ratio.Cmp(rest, zero) <= 0
			}
			if !within {
				t.Errorf("Mod(%v, %v) is %v", a, b, rest)
			}
			if times := ratio.Div(ratio.Sub(a, rest), b); times != none && times.D != 1 {
				t.Errorf("Mod(%v, %v) is %v, which leaves %v times", a, b, rest, times)
			}
		}
	}
}

// P1.4: none in, none out, of every operation, whichever it is of what counts as none.
func TestNoneInNoneOut(t *testing.T) {
	for _, bad := range notNumbers() {
		for name, op := range unary() {
			if got := op(bad); got != none {
				t.Errorf("%s(%v): got %v", name, bad, got)
			}
		}
		for _, other := range append(notNumbers(), edges()...) {
			for name, op := range binary() {
				if left, right := op(bad, other), op(other, bad); left != none || right != none {
					t.Errorf("%s of %v and %v: got %v, %v", name, bad, other, left, right)
				}
			}
			if left, right := ratio.Sum([]api.Q{bad, other}), ratio.Sum([]api.Q{other, bad}); left != none || right != none {
				t.Errorf("Sum of %v and %v: got %v, %v", bad, other, left, right)
			}
		}
		for n := -63; n <= 63; n++ {
			if got := ratio.Pow(bad, n); got != none {
				t.Errorf("Pow(%v, %d): got %v", bad, n, got)
			}
		}
	}
}

// P1.1: each result is a number or none itself.
func TestResultsAreValid(t *testing.T) {
	for _, a := range values() {
		for name, op := range unary() {
			if got := op(a); !ratio.Valid(got) {
				t.Errorf("%s(%v): got %v", name, a, got)
			}
		}
		for _, b := range values() {
			for name, op := range binary() {
				if got := op(a, b); !ratio.Valid(got) {
					t.Errorf("%s(%v, %v): got %v", name, a, b, got)
				}
			}
		}
	}
}
