// Package ratio is layer 1, numbers: exact fractions of bounded size, and none. See doc/01-ratio.md.
package ratio

import "serinette/api"

// Is tells whether q is a number.
func Is(q api.Q) bool {
	if q.N < -api.MaxNum || q.N > api.MaxNum || q.D < 1 || q.D > api.MaxNum {
		return false
	}
	return divisor(size(q.N), size(q.D)) == 1
}

// Valid tells whether q is a number or none.
func Valid(q api.Q) bool {
	return q == api.Q{} || Is(q)
}

// Make returns n / d.
func Make(n, d int64) api.Q {
	return lowest((n < 0) != (d < 0), size(n), size(d))
}

// lowest returns n / d, or its opposite, in lowest terms. It takes sizes without a sign because an int64 has no opposite of its least value.
func lowest(below bool, n, d uint64) api.Q {
	if d == 0 {
		return api.Q{}
	}
	common := divisor(n, d)
	n, d = n/common, d/common
	if n > api.MaxNum || d > api.MaxNum {
		return api.Q{}
	}
	if below {
		return api.Q{N: -int64(n), D: int64(d)}
	}
	return api.Q{N: int64(n), D: int64(d)}
}

// whole returns a whole number.
func whole(n int64) api.Q {
	return Make(n, 1)
}

// size returns n without its sign; the negation wraps around, so that it is right of the least int64, too.
func size(n int64) uint64 {
	if n < 0 {
		return -uint64(n)
	}
	return uint64(n)
}

// divisor returns the greatest common divisor.
func divisor(a, b uint64) uint64 {
	for b != 0 {
		a, b = b, a%b
	}
	return a
}

// divide returns the greatest whole number that is not above n / d, and what is left: 0, or of the sign of d, which is not 0.
func divide(n, d int64) (quotient, rest int64) {
	quotient, rest = n/d, n%d
	if rest != 0 && (rest < 0) != (d < 0) {
		quotient--
		rest += d
	}
	return quotient, rest
}

// both tells whether a and b are numbers. A product of two of their parts is at most 2^60 in size, and a sum of two such products fits in an int64.
func both(a, b api.Q) bool {
	return Is(a) && Is(b)
}

// Add returns a + b.
func Add(a, b api.Q) api.Q {
	if !both(a, b) {
		return api.Q{}
	}
	return Make(a.N*b.D+b.N*a.D, a.D*b.D)
}

// Sub returns a - b.
func Sub(a, b api.Q) api.Q {
	if !both(a, b) {
		return api.Q{}
	}
	return Make(a.N*b.D-b.N*a.D, a.D*b.D)
}

// Mul returns a times b.
func Mul(a, b api.Q) api.Q {
	if !both(a, b) {
		return api.Q{}
	}
	return Make(a.N*b.N, a.D*b.D)
}

// Div returns a / b; by 0: none.
func Div(a, b api.Q) api.Q {
	if !both(a, b) {
		return api.Q{}
	}
	return Make(a.N*b.D, a.D*b.N)
}

// Mod returns a less b times the greatest whole number not above a / b; by 0: none.
func Mod(a, b api.Q) api.Q {
	if !both(a, b) || b.N == 0 {
		return api.Q{}
	}
	// The quotient may be beyond MaxNum, and need not be a number: over the denominator of both, only the rest is told.
	_, rest := divide(a.N*b.D, b.N*a.D)
	return Make(rest, a.D*b.D)
}

// Neg returns -q.
func Neg(q api.Q) api.Q {
	if !Is(q) {
		return api.Q{}
	}
	return api.Q{N: -q.N, D: q.D}
}

// Abs returns q without its sign.
func Abs(q api.Q) api.Q {
	return Max(q, Neg(q))
}

// Floor returns the greatest whole number that is not above q.
func Floor(q api.Q) api.Q {
	if !Is(q) {
		return api.Q{}
	}
	floor, _ := divide(q.N, q.D)
	return whole(floor)
}

// Round returns the nearest whole number, of two the even one.
func Round(q api.Q) api.Q {
	if !Is(q) {
		return api.Q{}
	}
	nearest, rest := divide(q.N, q.D)
	if 2*rest > q.D || 2*rest == q.D && nearest%2 != 0 {
		nearest++
	}
	return whole(nearest)
}

// Frac returns q less its Floor.
func Frac(q api.Q) api.Q {
	return Sub(q, Floor(q))
}

// Min returns the lesser number.
func Min(a, b api.Q) api.Q {
	if !both(a, b) {
		return api.Q{}
	}
	if Cmp(b, a) < 0 {
		return b
	}
	return a
}

// Max returns the greater number.
func Max(a, b api.Q) api.Q {
	if !both(a, b) {
		return api.Q{}
	}
	if Cmp(b, a) > 0 {
		return b
	}
	return a
}

// Pow returns q to the n, from -62 to 62.
func Pow(q api.Q, n int) api.Q {
	if !Is(q) || n < -62 || n > 62 {
		return api.Q{}
	}
	factor := q
	if n < 0 {
		factor = Div(whole(1), q)
	}
	power := whole(1)
	// No exact power is lost on the way: behind one that is beyond MaxNum all are.
	for range max(n, -n) {
		power = Mul(power, factor)
	}
	return power
}

// Sum returns the sum from the left, each sum being a number or none by itself.
func Sum(l []api.Q) api.Q {
	sum := whole(0)
	for _, q := range l {
		sum = Add(sum, q)
	}
	return sum
}
