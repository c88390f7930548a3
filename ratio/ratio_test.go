package ratio_test

import (
	"math"
	"math/big"
	"math/rand"
	"slices"
	"testing"

	"serinette/api"
	"serinette/ratio"
)

// P1.1: Is, Valid.
func TestIsAndValid(t *testing.T) {
	for _, v := range edges() {
		if !ratio.Is(v) || !ratio.Valid(v) {
			t.Errorf("%v: Is %v, Valid %v of a number", v, ratio.Is(v), ratio.Valid(v))
		}
	}
	for _, v := range notNumbers() {
		if ratio.Is(v) {
			t.Errorf("Is(%v) is true", v)
		}
		if got, want := ratio.Valid(v), v == none; got != want {
			t.Errorf("Valid(%v) is %v", v, got)
		}
	}
}

// P1.1: Make of small n and d.
func TestMakeNamed(t *testing.T) {
	const m, least, most = api.MaxNum, math.MinInt64, math.MaxInt64
	for _, c := range []struct {
		n, d int64
		want api.Q
	}{
		{6, 4, api.Q{N: 3, D: 2}}, {-6, 4, api.Q{N: -3, D: 2}}, {6, -4, api.Q{N: -3, D: 2}}, {-6, -4, api.Q{N: 3, D: 2}},
		{0, 5, api.Q{N: 0, D: 1}}, {0, -5, api.Q{N: 0, D: 1}}, {0, least, api.Q{N: 0, D: 1}},
		{1, 0, none}, {0, 0, none}, {-1, 0, none}, {least, 0, none}, {most, 0, none},
		{m, 1, api.Q{N: m, D: 1}}, {-m, 1, api.Q{N: -m, D: 1}}, {m + 1, 1, none}, {-m - 1, 1, none},
		{1, m, api.Q{N: 1, D: m}}, {1, -m, api.Q{N: -1, D: m}}, {1, m + 1, none}, {1, -m - 1, none},
		{2 * m, 2, api.Q{N: m, D: 1}}, {2, -2 * m, api.Q{N: -1, D: m}}, {2*m + 2, 2, none}, {m, m + 1, none},
		{least, least, api.Q{N: 1, D: 1}}, {least, -1, none}, {least, 1, none}, {least, most, none}, {1, least, none}, {-1, least, none},
		{least, 1 << 33, api.Q{N: -m, D: 1}}, {least, -1 << 33, api.Q{N: m, D: 1}}, {least, 1 << 32, none},
		{1 << 33, least, api.Q{N: -1, D: m}}, {-1 << 33, least, api.Q{N: 1, D: m}}, {1 << 32, least, none},
		{most, most, api.Q{N: 1, D: 1}}, {most, -most, api.Q{N: -1, D: 1}}, {most, 1, none}, {most, 7, none},
		{most, most / 49, api.Q{N: 49, D: 1}}, {most / 49, -most, api.Q{N: -1, D: 49}},
	} {
		if got := ratio.Make(c.n, c.d); got != c.want {
			t.Errorf("Make(%d, %d): got %v, want %v", c.n, c.d, got, c.want)
		}
	}
}

// P1.1: Make of any int64, against numbers of any size.
func TestMakeOfAll(t *testing.T) {
	source := rand.New(rand.NewSource(3))
	l := []int64{0, 1, -1, math.MinInt64, math.MinInt64 + 1, math.MaxInt64, math.MaxInt64 - 1, api.MaxNum, -api.MaxNum, api.MaxNum + 1, -api.MaxNum - 1}
	for range 150 {
		l = append(l, int64(source.Uint64())>>source.Intn(63))
		l = append(l, (1+source.Int63n(1<<20))<<source.Intn(44))
	}
	for _, n := range l {
		for _, d := range l {
			want := none
			if d != 0 {
				want = q(n, d)
			}
			if got := ratio.Make(n, d); got != want {
				t.Errorf("Make(%d, %d): got %v, want %v", n, d, got, want)
			}
		}
	}
}

// exact returns what an operation makes of two numbers, formed exactly; nil: none.
func exact(name string, a, b *big.Rat) *big.Rat {
	r := new(big.Rat)
	switch {
	case a == nil || b == nil:
		return nil
	case name == "Add":
		return r.Add(a, b)
	case name == "Sub":
		return r.Sub(a, b)
	case name == "Mul":
		return r.Mul(a, b)
	case name == "Min" && a.Cmp(b) < 0, name == "Max" && a.Cmp(b) > 0:
		return a
	case name == "Min", name == "Max":
		return b
	case b.Sign() == 0:
		return nil
	case name == "Div":
		return r.Quo(a, b)
	}
	return r.Sub(a, new(big.Rat).Mul(b, floorOf(r.Quo(a, b))))
}

// P1.1: operations of two numbers, of all values, against numbers of any size.
func TestBinaryAgainstExact(t *testing.T) {
	for _, name := range []string{"Add", "Sub", "Mul", "Div", "Mod", "Min", "Max"} {
		op := binary()[name]
		for _, a := range values() {
			for _, b := range values() {
				want := fromRat(exact(name, toRat(a), toRat(b)))
				if got := op(a, b); got != want {
					t.Errorf("%s(%v, %v): got %v, want %v", name, a, b, got, want)
				}
			}
		}
	}
}

// exactOf returns what an operation makes of a number, formed exactly.
func exactOf(name string, a *big.Rat) *big.Rat {
	if a == nil {
		return nil
	}
	r := new(big.Rat)
	switch name {
	case "Neg":
		return r.Neg(a)
	case "Abs":
		return r.Abs(a)
	case "Floor":
		return floorOf(a)
	case "Frac":
		return r.Sub(a, floorOf(a))
	}
	half := big.NewRat(1, 2)
	up := floorOf(r.Add(a, half))
	tie := new(big.Rat).Sub(up, a).Cmp(half) == 0
	if tie && up.Num().Bit(0) == 1 {
		return up.Sub(up, big.NewRat(1, 1))
	}
	return up
}

// P1.1: operations of one number, of all values, against numbers of any size.
func TestUnaryAgainstExact(t *testing.T) {
	l := values()
	for n := int64(-40); n <= 40; n++ {
		for d := int64(1); d <= 6; d++ {
			l = append(l, q(n, d))
		}
	}
	for name, op := range unary() {
		for _, a := range l {
			want := fromRat(exactOf(name, toRat(a)))
			if got := op(a); got != want {
				t.Errorf("%s(%v): got %v, want %v", name, a, got, want)
			}
		}
	}
}

// P1.1: what the chapter names, with results written out.
func TestArithmeticNamed(t *testing.T) {
	const m = api.MaxNum
	for _, c := range []struct {
		name      string
		got, want api.Q
	}{
		{"1/3 + 1/6", ratio.Add(q(1, 3), q(1, 6)), api.Q{N: 1, D: 2}},
		{"m + 1", ratio.Add(q(m, 1), q(1, 1)), none},
		{"m - 1 + 1", ratio.Add(q(m-1, 1), q(1, 1)), api.Q{N: m, D: 1}},
		{"denominator beyond", ratio.Add(q(1, m), q(1, m-1)), none},
		{"-m - 1", ratio.Sub(q(-m, 1), q(1, 1)), none},
		{"m times 2", ratio.Mul(q(m, 1), q(2, 1)), none},
		{"1/m by 2", ratio.Div(q(1, m), q(2, 1)), none},
		{"m/(m-1) times (m-1)/m", ratio.Mul(q(m, m-1), q(m-1, m)), api.Q{N: 1, D: 1}},
		{"1 by 0", ratio.Div(q(1, 1), q(0, 1)), none},
		{"0 by 0", ratio.Div(q(0, 1), q(0, 1)), none},
		{"0 by -2", ratio.Div(q(0, 1), q(-2, 1)), api.Q{N: 0, D: 1}},
		{"1 by -1/2", ratio.Div(q(1, 1), q(-1, 2)), api.Q{N: -2, D: 1}},
		{"-7 mod 3", ratio.Mod(q(-7, 1), q(3, 1)), api.Q{N: 2, D: 1}},
		{"7 mod -3", ratio.Mod(q(7, 1), q(-3, 1)), api.Q{N: -2, D: 1}},
		{"-7 mod -3", ratio.Mod(q(-7, 1), q(-3, 1)), api.Q{N: -1, D: 1}},
		{"6 mod -3", ratio.Mod(q(6, 1), q(-3, 1)), api.Q{N: 0, D: 1}},
		{"7/2 mod 3/4", ratio.Mod(q(7, 2), q(3, 4)), api.Q{N: 1, D: 2}},
		{"m mod 1/m: the quotient is beyond", ratio.Mod(q(m, 1), q(1, m)), api.Q{N: 0, D: 1}},
		{"m mod (m-1)/m", ratio.Mod(q(m, 1), q(m-1, m)), fromRat(exact("Mod", big.NewRat(m, 1), big.NewRat(m-1, m)))},
		{"1/m mod 1/(m-1)", ratio.Mod(q(1, m), q(1, m-1)), api.Q{N: 1, D: m}},
		{"1/(m-1) mod 1/m: the denominator is beyond", ratio.Mod(q(1, m-1), q(1, m)), none},
		{"5 mod 0", ratio.Mod(q(5, 1), q(0, 1)), none},
		{"0 mod 0", ratio.Mod(q(0, 1), q(0, 1)), none},
		{"floor -1/2", ratio.Floor(q(-1, 2)), api.Q{N: -1, D: 1}},
		{"floor -2", ratio.Floor(q(-2, 1)), api.Q{N: -2, D: 1}},
		{"floor 7/4", ratio.Floor(q(7, 4)), api.Q{N: 1, D: 1}},
		{"round 5/2", ratio.Round(q(5, 2)), api.Q{N: 2, D: 1}},
		{"round 7/2", ratio.Round(q(7, 2)), api.Q{N: 4, D: 1}},
		{"round 1/2", ratio.Round(q(1, 2)), api.Q{N: 0, D: 1}},
		{"round -1/2", ratio.Round(q(-1, 2)), api.Q{N: 0, D: 1}},
		{"round -3/2", ratio.Round(q(-3, 2)), api.Q{N: -2, D: 1}},
		{"round -5/2", ratio.Round(q(-5, 2)), api.Q{N: -2, D: 1}},
		{"round -7/4", ratio.Round(q(-7, 4)), api.Q{N: -2, D: 1}},
		{"round 4/3", ratio.Round(q(4, 3)), api.Q{N: 1, D: 1}},
		{"frac -1/4", ratio.Frac(q(-1, 4)), api.Q{N: 3, D: 4}},
		{"frac -3", ratio.Frac(q(-3, 1)), api.Q{N: 0, D: 1}},
		{"abs -5/7", ratio.Abs(q(-5, 7)), api.Q{N: 5, D: 7}},
		{"abs -m", ratio.Abs(q(-m, 1)), api.Q{N: m, D: 1}},
		{"neg 0", ratio.Neg(q(0, 1)), api.Q{N: 0, D: 1}},
		{"min", ratio.Min(q(-1, 2), q(-1, 3)), api.Q{N: -1, D: 2}},
		{"max", ratio.Max(q(-1, 2), q(-1, 3)), api.Q{N: -1, D: 3}},
		{"min none", ratio.Min(q(1, 1), none), none},
		{"max none", ratio.Max(none, q(1, 1)), none},
	} {
		if c.got != c.want {
			t.Errorf("%s: got %v, want %v", c.name, c.got, c.want)
		}
	}
}

// power returns a to the n, formed exactly; nil: none.
func power(a *big.Rat, n int) *big.Rat {
	if a == nil || n < -62 || n > 62 || a.Sign() == 0 && n < 0 {
		return nil
	}
	size := big.NewInt(int64(max(n, -n)))
	above := new(big.Int).Exp(a.Num(), size, nil)
	under := new(big.Int).Exp(a.Denom(), size, nil)
	if n < 0 {
		above, under = under, above
	}
	return new(big.Rat).SetFrac(above, under)
}

// P1.1: Pow of all values, and out of range.
func TestPow(t *testing.T) {
	l := []int{math.MinInt, math.MaxInt, math.MinInt32, math.MaxInt32, -1000, 1000}
	for n := -66; n <= 66; n++ {
		l = append(l, n)
	}
	for _, a := range values() {
		for _, n := range l {
			want := fromRat(power(toRat(a), n))
			if got := ratio.Pow(a, n); got != want {
				t.Errorf("Pow(%v, %d): got %v, want %v", a, n, got, want)
			}
		}
	}
}

// P1.1: powers that the chapter names, with results written out.
func TestPowNamed(t *testing.T) {
	for _, c := range []struct {
		of   api.Q
		n    int
		want api.Q
	}{
		{q(2, 1), 30, api.Q{N: api.MaxNum, D: 1}}, {q(2, 1), 31, none}, {q(2, 1), -30, api.Q{N: 1, D: api.MaxNum}}, {q(2, 1), -31, none},
		{q(-2, 1), 29, api.Q{N: -api.MaxNum / 2, D: 1}}, {q(-2, 1), -29, api.Q{N: -1, D: api.MaxNum / 2}}, {q(-2, 3), -3, api.Q{N: -27, D: 8}}, {q(3, 2), 2, api.Q{N: 9, D: 4}},
		{q(0, 1), 0, api.Q{N: 1, D: 1}}, {q(0, 1), 5, api.Q{N: 0, D: 1}}, {q(0, 1), 62, api.Q{N: 0, D: 1}}, {q(0, 1), -1, none}, {q(0, 1), -62, none},
		{q(0, 1), 63, none}, {q(5, 1), 0, api.Q{N: 1, D: 1}}, {none, 0, none}, {none, 3, none}, {api.Q{N: 2, D: 4}, 0, none},
		{q(1, 1), 62, api.Q{N: 1, D: 1}}, {q(1, 1), 63, none}, {q(1, 1), -62, api.Q{N: 1, D: 1}}, {q(1, 1), -63, none}, {q(-1, 1), -61, api.Q{N: -1, D: 1}},
	} {
		if got := ratio.Pow(c.of, c.n); got != c.want {
			t.Errorf("Pow(%v, %d): got %v, want %v", c.of, c.n, got, c.want)
		}
	}
}

// P1.1: Sum, from the left, each sum a result by itself; the list stays as it is.
func TestSum(t *testing.T) {
	const m = api.MaxNum
	for _, c := range []struct {
		l    []api.Q
		want api.Q
	}{
		{nil, api.Q{N: 0, D: 1}}, {[]api.Q{}, api.Q{N: 0, D: 1}}, {[]api.Q{q(-2, 3)}, q(-2, 3)}, {[]api.Q{none}, none}, {[]api.Q{{N: 2, D: 4}}, none},
		{[]api.Q{q(1, 2), q(1, 3), q(1, 6)}, q(1, 1)}, {[]api.Q{q(m, 1), q(1, 1), q(-1, 1)}, none}, {[]api.Q{q(m, 1), q(-1, 1), q(1, 1)}, q(m, 1)},
		{[]api.Q{q(1, 1), q(-1, 1), q(m, 1)}, q(m, 1)}, {[]api.Q{q(1, 1), q(m, 1), q(-1, 1)}, none},
		{[]api.Q{none, q(1, 1)}, none}, {[]api.Q{q(1, 1), none, q(1, 1)}, none}, {[]api.Q{q(1, 1), q(1, 1), {N: 1, D: 0}}, none},
		{[]api.Q{q(1, m), q(1, m-1), q(-1, m-1)}, none}, {[]api.Q{q(1, m-1), q(-1, m-1), q(1, m)}, q(1, m)},
	} {
		before := slices.Clone(c.l)
		if got := ratio.Sum(c.l); got != c.want {
			t.Errorf("Sum(%v): got %v, want %v", c.l, got, c.want)
		}
		if !slices.Equal(before, c.l) {
			t.Errorf("Sum changed %v to %v", before, c.l)
		}
	}
}
