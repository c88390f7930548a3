package span

import (
	"serinette/api"
	"serinette/ratio"
)

// Op returns a span of what op makes of the numbers, and none, of the spans of l.
func Op(op string, l []api.Span) (api.Span, api.Errno) {
	if len(l) == 0 || len(l) != ins(op) {
		return api.Span{}, api.ErrArg
	}
	spans := make([]api.Span, len(l))
	none, empty := false, false
	for i, s := range l {
		spans[i] = known(s)
		none, empty = none || spans[i].None, empty || spans[i].Empty
	}
	switch {
	case op == "pick":
		return pick(spans[0], spans[1], spans[2]), api.OK
	case empty:
		return nothing(none), api.OK
	}
	r := of(op, spans)
	r.None = r.None || none
	return r, api.OK
}

// ins returns how many spans op takes; 0: there is no such op.
func ins(op string) int {
	switch op {
	case "neg", "abs", "floor", "round", "frac", "not":
		return 1
	case "add", "sub", "mul", "div", "mod", "min", "max", "lt", "le", "eq", "ne", "and", "or", "xor", "shl", "shr":
		return 2
	case "pick":
		return 3
	}
	return 0
}

// of returns what op, which is not pick, makes of the numbers of spans that are not Empty: None in it is none that comes of numbers.
func of(op string, l []api.Span) api.Span {
	if len(l) == 1 {
		return ofOne(op, l[0])
	}
	return ofTwo(op, l[0], l[1])
}

// ofOne is of for ops with one in.
func ofOne(op string, s api.Span) api.Span {
	switch op {
	case "neg":
		return turned(s)
	case "abs":
		return sizes(s)
	case "floor":
		return Make(ratio.Floor(s.Lo), ratio.Floor(s.Hi), 1)
	case "round":
		return Make(ratio.Round(s.Lo), ratio.Round(s.Hi), 1)
	case "frac":
		return rests(s)
	}
	return opposites(s)
}

// ofTwo is of for ops with two ins.
func ofTwo(op string, a, b api.Span) api.Span {
	switch op {
	case "add":
		return sum(a, b)
	case "sub":
		return sum(a, turned(b))
	case "mul":
		return product(a, b)
	case "div":
		return quotient(a, b)
	case "mod":
		return modulo(a, b)
	case "min":
		return Make(ratio.Min(a.Lo, b.Lo), givingWay(ratio.Min, a.Hi, b.Hi), lowestCommon(a.Den, b.Den))
	case "max":
		return Make(givingWay(ratio.Max, a.Lo, b.Lo), ratio.Max(a.Hi, b.Hi), lowestCommon(a.Den, b.Den))
	case "lt", "le", "eq", "ne":
		return truths(op, a, b)
	case "and", "or", "xor":
		return digits(op, a, b)
	}
	return All()
}

// turned returns the numbers of s with the other sign.
func turned(s api.Span) api.Span {
	return Make(ratio.Neg(s.Hi), ratio.Neg(s.Lo), s.Den)
}

// sizes returns the numbers of s without their signs.
func sizes(s api.Span) api.Span {
	lo, hi := ratio.Abs(s.Lo), ratio.Abs(s.Hi)
	least := givingWay(ratio.Min, lo, hi)
	if Has(s, zero()) {
		least = zero()
	}
	return Make(least, ratio.Max(lo, hi), s.Den)
}

// rests returns what Floor leaves of the numbers of s.
func rests(s api.Span) api.Span {
	if s.Den == 1 {
		return Point(zero())
	}
	return Make(zero(), one(), s.Den)
}

// opposites returns 1 of 0, and 0 of other numbers.
func opposites(s api.Span) api.Span {
	switch {
	case isZero(s):
		return Point(one())
	case !Has(s, zero()):
		return Point(zero())
	}
	return either()
}

// sum returns the sums of numbers of a and b.
func sum(a, b api.Span) api.Span {
	return closed(plus(a.Lo, b.Lo), plus(a.Hi, b.Hi), lowestCommon(a.Den, b.Den))
}

// product returns the products of numbers of a and b.
func product(a, b api.Span) api.Span {
	lo, hi := products(a, b)
	return closed(lo, hi, bounded(a.Den*b.Den))
}

// quotient returns the numbers of a by those of b.
func quotient(a, b api.Span) api.Span {
	if !isPoint(b) || isZero(b) {
		return All()
	}
	return product(a, Point(ratio.Div(one(), b.Lo)))
}

// modulo returns what the numbers of b leave of those of a.
func modulo(a, b api.Span) api.Span {
	// An open Lo is no number above 0 either: its N is 0.
	if b.Lo.N <= 0 {
		return All()
	}
	return closed(exactly(zero()), exactly(b.Hi), lowestCommon(a.Den, b.Den))
}

// truths returns 1, 0, or both: how the numbers of a stand to those of b.
func truths(op string, a, b api.Span) api.Span {
	if (op == "eq" || op == "ne") && !(isPoint(a) && isPoint(b)) {
		return either()
	}
	// An order that holds of the greatest of a and the least of b holds of all; one that does not hold the other way around never does. The Test of an open end is none, and decides nothing.
	if ratio.Test(op, a.Hi, b.Lo) == one() {
		return Point(one())
	}
	if ratio.Test(op, a.Lo, b.Hi) == zero() {
		return Point(zero())
	}
	return either()
}

// digits returns what op makes of the binary digits.
func digits(op string, a, b api.Span) api.Span {
	if !isCount(a) || !isCount(b) {
		return All()
	}
	hi := exactly(ratio.Min(a.Hi, b.Hi))
	if op != "and" {
		hi = ones(ratio.Max(a.Hi, b.Hi))
	}
	return closed(exactly(zero()), hi, 1)
}

// isCount tells whether s has whole numbers from 0 on to a greatest one.
func isCount(s api.Span) bool {
	return s.Den == 1 && !isOpen(s.Lo) && s.Lo.N >= 0 && !isOpen(s.Hi)
}

// ones returns the least number of binary ones alone that is not below q.
func ones(q api.Q) end {
	e := end{0, 1}
	for compare(e, exactly(q)) < 0 {
		e.n = 2*e.n + 1
	}
	return e
}

// pick returns b's numbers if s is not 0, a's if it is, and both if it may be either.
func pick(s, a, b api.Span) api.Span {
	if s.Empty {
		return s
	}
	var r api.Span
	switch {
	case !Has(s, zero()):
		r = b
	case isZero(s):
		r = a
	default:
		r = Join(a, b)
	}
	r.None = r.None || s.None
	return r
}

// either returns the span of 0 and 1.
func either() api.Span {
	return Make(zero(), one(), 1)
}

// zero returns 0.
func zero() api.Q {
	return ratio.Make(0, 1)
}

// one returns 1.
func one() api.Q {
	return ratio.Make(1, 1)
}
