package span

import (
	"cmp"
	"math/bits"
	"slices"

	"serinette/api"
	"serinette/ratio"
)

// end is an exact end, n / d, not bounded by MaxNum and not always in lowest terms: an end of a span, or a sum or product of two. So n is at most 2^61 in size, and d at most 2^60. It is open if d is 0.
type end struct{ n, d int64 }

// exactly returns the end of a span.
func exactly(q api.Q) end {
	return end{q.N, q.D}
}

// plus returns the sum; it is open if one is.
func plus(a, b api.Q) end {
	return end{a.N*b.D + b.N*a.D, a.D * b.D}
}

// times returns the product; it is open if one is.
func times(a, b api.Q) end {
	return end{a.N * b.N, a.D * b.D}
}

// compare returns -1, 0 or 1; neither end is open.
func compare(a, b end) int {
	if (a.n < 0) != (b.n < 0) {
		return cmp.Compare(a.n, b.n)
	}
	highA, lowA := bits.Mul64(size(a.n), uint64(b.d))
	highB, lowB := bits.Mul64(size(b.n), uint64(a.d))
	order := cmp.Or(cmp.Compare(highA, highB), cmp.Compare(lowA, lowB))
	if a.n < 0 {
		return -order
	}
	return order
}

// size returns n, which is an end's, without its sign.
func size(n int64) uint64 {
	return uint64(max(n, -n))
}

// products returns the ends of the products of numbers of a and b.
func products(a, b api.Span) (lo, hi end) {
	if isZero(a) || isZero(b) {
		return end{0, 1}, end{0, 1}
	}
	l := []end{times(a.Lo, b.Lo), times(a.Lo, b.Hi), times(a.Hi, b.Lo), times(a.Hi, b.Hi)}
	if slices.ContainsFunc(l, end.isOpen) {
		return end{}, end{}
	}
	return slices.MinFunc(l, compare), slices.MaxFunc(l, compare)
}

// isOpen tells whether e is open.
func (e end) isOpen() bool {
	return e.d == 0
}

// closed returns the span to which the ends and the Den close; None in it is that of closing alone.
func closed(lo, hi end, den int64) api.Span {
	s := api.Span{Lo: lo.lower(), Hi: hi.upper(), Den: den}
	s.None = den == 0 || isOpen(s.Lo) || isOpen(s.Hi) || !holds(s.Lo, den) || !holds(s.Hi, den)
	return s
}

// lower returns e as a lower end: if it is no number the whole one below it, and open if it is beyond MaxNum.
func (e end) lower() api.Q {
	q := ratio.Make(e.n, e.d)
	if ratio.Is(q) || e.isOpen() {
		return q
	}
	floor := e.n / e.d
	// A whole e that is no number is beyond MaxNum, and is so with one less, too.
	if e.n < 0 {
		floor--
	}
	// Ahead of a rest, MaxNum is passed.
	if floor >= api.MaxNum {
		return api.Q{}
	}
	return ratio.Make(floor, 1)
}

// upper returns e as an upper end: as a lower one turned.
func (e end) upper() api.Q {
	return ratio.Neg(end{-e.n, e.d}.lower())
}

// holds tells whether all that is no greater in size than the end q, and has a denominator that divides den is a number.
func holds(q api.Q, den int64) bool {
	return size(q.N)*uint64(den) <= api.MaxNum*uint64(q.D)
}
