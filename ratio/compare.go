package ratio

import (
	"cmp"

	"serinette/api"
)

// Cmp returns -1, 0 or 1; none is below all numbers and equal to none.
func Cmp(a, b api.Q) int {
	if !both(a, b) {
		return cmp.Compare(rank(a), rank(b))
	}
	return cmp.Compare(a.N*b.D, b.N*a.D)
}

// rank puts none below the numbers.
func rank(q api.Q) int {
	if Is(q) {
		return 1
	}
	return 0
}

// Test returns 1 or 0: whether a stands to b as op says (lt, le, eq, ne).
func Test(op string, a, b api.Q) api.Q {
	if !both(a, b) {
		return api.Q{}
	}
	order := Cmp(a, b)
	switch op {
	case "lt":
		return truth(order < 0)
	case "le":
		return truth(order <= 0)
	case "eq":
		return truth(order == 0)
	case "ne":
		return truth(order != 0)
	}
	return api.Q{}
}

// truth returns 1 or 0.
func truth(is bool) api.Q {
	if is {
		return whole(1)
	}
	return whole(0)
}

// Bits returns what op (and, or, xor, shl, shr) makes of the binary digits of whole numbers.
func Bits(op string, a, b api.Q) api.Q {
	if !both(a, b) || a.D != 1 || b.D != 1 {
		return api.Q{}
	}
	// The digits of an int64 are those of two's complement, and its sign stands for the endless ones ahead.
	switch op {
	case "and":
		return whole(a.N & b.N)
	case "or":
		return whole(a.N | b.N)
	case "xor":
		return whole(a.N ^ b.N)
	case "shl", "shr":
		return shift(op, a.N, b.N)
	}
	return api.Q{}
}

// shift returns n times 2 to the places, or the Floor of n by it.
func shift(op string, n, places int64) api.Q {
	if places < 0 || places > 62 {
		return api.Q{}
	}
	if op == "shr" {
		return whole(n >> places)
	}
	// All but 0 are beyond MaxNum from 31 places on; more would shift digits out of the int64.
	return whole(n << min(places, 31))
}
