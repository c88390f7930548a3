package ratio_test

import (
	"math/big"
	"testing"

	"serinette/api"
	"serinette/ratio"
)

// order returns how a stands to b.
func order(a, b api.Q) int {
	x, y := toRat(a), toRat(b)
	switch {
	case x == nil && y == nil:
		return 0
	case x == nil:
		return -1
	case y == nil:
		return 1
	}
	return x.Cmp(y)
}

// P1.2: Cmp of all values.
func TestCmp(t *testing.T) {
	for _, a := range values() {
		for _, b := range values() {
			if got, want := ratio.Cmp(a, b), order(a, b); got != want {
				t.Errorf("Cmp(%v, %v): got %d, want %d", a, b, got, want)
			}
		}
	}
}

// P1.2: Cmp as the chapter names it.
func TestCmpNamed(t *testing.T) {
	const m = api.MaxNum
	for _, c := range []struct {
		a, b api.Q
		want int
	}{
		{q(1, 3), q(1, 2), -1}, {q(1, 2), q(1, 2), 0}, {q(1, 2), q(-1, 2), 1}, {q(-1, 2), q(-1, 3), -1},
		{none, q(-m, 1), -1}, {q(-m, 1), none, 1}, {none, none, 0}, {none, api.Q{N: 5, D: 0}, 0}, {api.Q{N: 2, D: 4}, q(0, 1), -1}, {api.Q{N: 9, D: 3}, api.Q{N: 1, D: -1}, 0},
		{q(m, m-1), q(m-1, m), 1}, {q(m-1, m), q(1, 1), -1}, {q(-m, 1), q(m, 1), -1}, {q(1, m), q(1, m-1), -1},
	} {
		if got := ratio.Cmp(c.a, c.b); got != c.want {
			t.Errorf("Cmp(%v, %v): got %d, want %d", c.a, c.b, got, c.want)
		}
	}
}

// P1.2: Test of all values and ops.
func TestTest(t *testing.T) {
	decide := map[string]func(order int) bool{
		"lt": func(order int) bool { return order < 0 },
		"le": func(order int) bool { return order <= 0 },
		"eq": func(order int) bool { return order == 0 },
		"ne": func(order int) bool { return order != 0 },
	}
	for op, is := range decide {
		for _, a := range values() {
			for _, b := range values() {
				want := none
				if toRat(a) != nil && toRat(b) != nil {
					want = q(0, 1)
					if is(order(a, b)) {
						want = q(1, 1)
					}
				}
				if got := ratio.Test(op, a, b); got != want {
					t.Errorf("Test(%s, %v, %v): got %v, want %v", op, a, b, got, want)
				}
			}
		}
	}
}

// otherOps are names that neither Test nor Bits knows.
func otherOps() []string {
	return []string{"", "gt", "ge", "LT", "lt ", " eq", "add", "not", "nand", "AND", "sh", "shl ", "shrl", "none", "<", "&"}
}

// P1.2: another op is none, of Test and of Bits; the ops of one are not those of the other.
func TestUnknownOps(t *testing.T) {
	for _, a := range []api.Q{q(0, 1), q(1, 1), q(3, 1), q(-2, 1), none} {
		for _, b := range []api.Q{q(0, 1), q(1, 1), q(5, 2), none} {
			for _, op := range append(otherOps(), "and", "or", "xor", "shl", "shr") {
				if got := ratio.Test(op, a, b); got != none {
					t.Errorf("Test(%q, %v, %v): got %v", op, a, b, got)
				}
			}
			for _, op := range append(otherOps(), "lt", "le", "eq", "ne") {
				if got := ratio.Bits(op, a, b); got != none {
					t.Errorf("Bits(%q, %v, %v): got %v", op, a, b, got)
				}
			}
		}
	}
}

// bitsOf returns what Bits makes of whole numbers, formed exactly; nil: none.
func bitsOf(op string, a, b *big.Rat) *big.Rat {
	if a == nil || b == nil || !a.IsInt() || !b.IsInt() {
		return nil
	}
	r, x, y := new(big.Int), a.Num(), b.Num()
	switch op {
	case "and":
		r.And(x, y)
	case "or":
		r.Or(x, y)
	case "xor":
		r.Xor(x, y)
	default:
		if y.Sign() < 0 || y.Cmp(big.NewInt(62)) > 0 {
			return nil
		}
		if op == "shl" {
			r.Lsh(x, uint(y.Int64()))
		} else {
			r.Rsh(x, uint(y.Int64()))
		}
	}
	return new(big.Rat).SetInt(r)
}

// P1.2: Bits of all values, and of small numbers with all shifts.
func TestBits(t *testing.T) {
	l := values()
	for n := int64(-5); n <= 66; n++ {
		l = append(l, q(n, 1))
	}
	for _, op := range []string{"and", "or", "xor", "shl", "shr"} {
		for _, a := range l {
			for _, b := range l {
				want := fromRat(bitsOf(op, toRat(a), toRat(b)))
				if got := ratio.Bits(op, a, b); got != want {
					t.Errorf("Bits(%s, %v, %v): got %v, want %v", op, a, b, got, want)
				}
			}
		}
	}
}

// P1.2: Bits as the chapter names it, with results written out.
func TestBitsNamed(t *testing.T) {
	const m = api.MaxNum
	for _, c := range []struct {
		op         string
		a, b, want api.Q
	}{
		{"and", q(-1, 1), q(6, 1), api.Q{N: 6, D: 1}}, {"and", q(-4, 1), q(-6, 1), api.Q{N: -8, D: 1}}, {"and", q(12, 1), q(10, 1), api.Q{N: 8, D: 1}},
		{"or", q(12, 1), q(10, 1), api.Q{N: 14, D: 1}}, {"or", q(5, 1), q(-8, 1), api.Q{N: -3, D: 1}}, {"or", q(m, 1), q(1, 1), none},
		{"xor", q(12, 1), q(10, 1), api.Q{N: 6, D: 1}}, {"xor", q(-1, 1), q(6, 1), api.Q{N: -7, D: 1}}, {"xor", q(m, 1), q(-1, 1), none}, {"xor", q(-m, 1), q(-1, 1), api.Q{N: m - 1, D: 1}},
		{"and", q(1, 2), q(1, 1), none}, {"or", q(1, 1), q(1, 2), none}, {"shl", q(1, 2), q(1, 1), none}, {"shr", q(1, 1), q(1, 2), none}, {"shr", q(3, 2), q(0, 1), none},
		{"shl", q(3, 1), q(4, 1), api.Q{N: 48, D: 1}}, {"shl", q(-3, 1), q(4, 1), api.Q{N: -48, D: 1}}, {"shl", q(1, 1), q(30, 1), api.Q{N: m, D: 1}}, {"shl", q(-1, 1), q(30, 1), api.Q{N: -m, D: 1}},
		{"shl", q(1, 1), q(31, 1), none}, {"shl", q(-1, 1), q(62, 1), none}, {"shl", q(4, 1), q(62, 1), none}, {"shl", q(m, 1), q(34, 1), none}, {"shl", q(0, 1), q(62, 1), api.Q{N: 0, D: 1}},
		{"shl", q(0, 1), q(63, 1), none}, {"shl", q(0, 1), q(-1, 1), none}, {"shl", q(7, 1), q(0, 1), api.Q{N: 7, D: 1}}, {"shl", q(1, 1), q(64, 1), none},
		{"shr", q(5, 1), q(1, 1), api.Q{N: 2, D: 1}}, {"shr", q(-5, 1), q(1, 1), api.Q{N: -3, D: 1}}, {"shr", q(-5, 1), q(62, 1), api.Q{N: -1, D: 1}}, {"shr", q(5, 1), q(62, 1), api.Q{N: 0, D: 1}},
		{"shr", q(5, 1), q(63, 1), none}, {"shr", q(5, 1), q(-1, 1), none}, {"shr", q(-1, 1), q(64, 1), none}, {"shr", q(-m, 1), q(30, 1), api.Q{N: -1, D: 1}},
		{"and", none, q(0, 1), none}, {"or", q(0, 1), none, none}, {"shl", none, q(0, 1), none}, {"and", api.Q{N: 4, D: 2}, q(0, 1), none}, {"shr", q(0, 1), api.Q{N: 0, D: 2}, none},
	} {
		if got := ratio.Bits(c.op, c.a, c.b); got != c.want {
			t.Errorf("Bits(%s, %v, %v): got %v, want %v", c.op, c.a, c.b, got, c.want)
		}
	}
}
