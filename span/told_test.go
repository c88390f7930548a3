package span_test

import (
	"math/big"
	"slices"

	"serinette/api"
)

// told returns what the chapter tells of op, with ends of any size; false: it refuses op or the spans.
func told(op string, spans []api.Span) (api.Span, bool) {
	if len(spans) == 0 || len(spans) != arity()[op] {
		return api.Span{}, false
	}
	var l []api.Span
	isNone, isEmpty := false, false
	for _, v := range spans {
		v = known(v)
		l = append(l, v)
		isNone, isEmpty = isNone || v.None, isEmpty || v.Empty
	}
	switch {
	case op == "pick":
		return toldPick(l[0], l[1], l[2]), true
	case isEmpty:
		return api.Span{Empty: true, None: isNone}, true
	case len(l) == 1:
		return toldOfOne(op, l[0]), true
	}
	return toldOfTwo(op, l[0], l[1], isNone), true
}

// arity returns how many spans each op takes.
func arity() map[string]int {
	m := map[string]int{"pick": 3}
	for _, op := range unary() {
		m[op] = 1
	}
	for _, op := range binary() {
		m[op] = 2
	}
	return m
}

// unary returns the ops that take one span.
func unary() []string {
	return []string{"neg", "abs", "floor", "round", "frac", "not"}
}

// binary returns the ops that take two spans.
func binary() []string {
	return []string{"add", "sub", "mul", "div", "mod", "min", "max", "lt", "le", "eq", "ne", "and", "or", "xor", "shl", "shr"}
}

// toldOfOne is told of one span that is not Empty.
func toldOfOne(op string, v api.Span) api.Span {
	lo, hi := rat(v.Lo), rat(v.Hi)
	r := api.Span{Den: v.Den, None: v.None}
	switch op {
	case "neg":
		r.Lo, r.Hi = fromRat(opposite(hi)), fromRat(opposite(lo))
	case "abs":
		switch {
		case lo != nil && lo.Sign() > 0:
			r.Lo, r.Hi = v.Lo, v.Hi
		case hi != nil && hi.Sign() < 0:
			r.Lo, r.Hi = fromRat(opposite(hi)), fromRat(opposite(lo))
		default:
			r.Lo = q(0, 1)
			if lo != nil && hi != nil {
				r.Hi = fromRat(slices.MaxFunc([]*big.Rat{opposite(lo), hi}, (*big.Rat).Cmp))
			}
		}
	case "floor":
		r.Lo, r.Hi, r.Den = whole(lo, big.NewRat(0, 1)), whole(hi, big.NewRat(0, 1)), 1
	case "round":
		r.Lo, r.Hi, r.Den = nearest(lo), nearest(hi), 1
	case "frac":
		r.Lo, r.Hi = q(0, 1), q(1, 1)
		if v.Den == 1 {
			r.Hi = q(0, 1)
		}
	case "not":
		return decided(v.None, v.Lo == q(0, 1) && v.Hi == q(0, 1), lo != nil && lo.Sign() > 0 || hi != nil && hi.Sign() < 0)
	}
	return r
}

// opposite returns -r.
func opposite(r *big.Rat) *big.Rat {
	if r == nil {
		return nil
	}
	return new(big.Rat).Neg(r)
}

// whole returns the greatest whole number that is not above r and more.
func whole(r, more *big.Rat) api.Q {
	if r == nil {
		return none
	}
	r = new(big.Rat).Add(r, more)
	return fromRat(new(big.Rat).SetInt(new(big.Int).Div(r.Num(), r.Denom())))
}

// nearest returns the nearest whole number, of two the even one.
func nearest(r *big.Rat) api.Q {
	n := whole(r, big.NewRat(1, 2))
	if r != nil && r.Denom().Int64() == 2 && n.N%2 != 0 {
		n.N--
	}
	return n
}

// decided returns 1 if always, 0 if never, or both.
func decided(isNone, always, never bool) api.Span {
	r := api.Span{Lo: q(0, 1), Hi: q(1, 1), Den: 1, None: isNone}
	if always {
		r.Lo = q(1, 1)
	}
	if never {
		r.Hi = q(0, 1)
	}
	return r
}

// all returns all numbers, and none.
func all() api.Span {
	return api.Span{None: true}
}

// toldOfTwo is told of two spans that are not Empty.
func toldOfTwo(op string, a, b api.Span, isNone bool) api.Span {
	isPoint := b.Lo != none && b.Lo == b.Hi
	den := common(a.Den, b.Den)
	switch op {
	case "add":
		return toldClosed(sum(rat(a.Lo), rat(b.Lo)), sum(rat(a.Hi), rat(b.Hi)), den, isNone)
	case "sub":
		return toldClosed(sum(rat(a.Lo), opposite(rat(b.Hi))), sum(rat(a.Hi), opposite(rat(b.Lo))), den, isNone)
	case "mul":
		return toldProduct(a, b, isNone)
	case "div":
		if !isPoint || b.Lo.N == 0 {
			return all()
		}
		by := fromRat(new(big.Rat).Inv(rat(b.Lo)))
		return toldProduct(a, api.Span{Lo: by, Hi: by, Den: by.D}, isNone)
	case "mod":
		if b.Lo == none || b.Lo.N <= 0 {
			return all()
		}
		return toldClosed(new(big.Rat), rat(b.Hi), den, isNone)
	case "min", "max":
		return toldEnds(op, a, b, den.Int64(), isNone)
	case "lt", "le":
		return toldOrder(op, a, b, isNone)
	case "eq", "ne":
		if !isPoint || a.Lo != a.Hi || a.Lo == none {
			return decided(isNone, false, false)
		}
		is := (a.Lo == b.Lo) == (op == "eq")
		return decided(isNone, is, !is)
	case "and", "or", "xor":
		return toldDigits(op, a, b, isNone)
	}
	return all()
}

// common returns the lowest common Den.
func common(a, b int64) *big.Int {
	if a == 0 || b == 0 {
		return new(big.Int)
	}
	x, y := big.NewInt(a), big.NewInt(b)
	shared := new(big.Int).GCD(nil, nil, x, y)
	return bounded(x.Mul(x, y).Div(x, shared))
}

// bounded returns a Den, or 0 if it is beyond MaxNum.
func bounded(den *big.Int) *big.Int {
	if den.Cmp(big.NewInt(api.MaxNum)) > 0 {
		return new(big.Int)
	}
	return den
}

// sum returns a + b; nil: open.
func sum(a, b *big.Rat) *big.Rat {
	if a == nil || b == nil {
		return nil
	}
	return new(big.Rat).Add(a, b)
}

// toldProduct is told of mul.
func toldProduct(a, b api.Span, isNone bool) api.Span {
	den := bounded(new(big.Int).Mul(big.NewInt(a.Den), big.NewInt(b.Den)))
	zero := q(0, 1)
	if a.Lo == zero && a.Hi == zero || b.Lo == zero && b.Hi == zero {
		return toldClosed(new(big.Rat), new(big.Rat), den, isNone)
	}
	var l []*big.Rat
	for _, x := range []api.Q{a.Lo, a.Hi} {
		for _, y := range []api.Q{b.Lo, b.Hi} {
			if x == none || y == none {
				return toldClosed(nil, nil, den, isNone)
			}
			l = append(l, new(big.Rat).Mul(rat(x), rat(y)))
		}
	}
	return toldClosed(slices.MinFunc(l, (*big.Rat).Cmp), slices.MaxFunc(l, (*big.Rat).Cmp), den, isNone)
}

// toldClosed closes.
func toldClosed(lo, hi *big.Rat, den *big.Int, isNone bool) api.Span {
	r := api.Span{Lo: outwards(lo, false), Hi: outwards(hi, true), Den: den.Int64(), None: isNone}
	if r.Lo == none || r.Hi == none || r.Den == 0 {
		r.None = true
		return r
	}
	for _, end := range []api.Q{r.Lo, r.Hi} {
		size := new(big.Rat).Abs(rat(end))
		if size.Mul(size, big.NewRat(r.Den, 1)).Cmp(big.NewRat(api.MaxNum, 1)) > 0 {
			r.None = true
		}
	}
	return r
}

// outwards returns an end that is a number, or the next whole one, or is open.
func outwards(r *big.Rat, up bool) api.Q {
	if r == nil || new(big.Rat).Abs(r).Cmp(big.NewRat(api.MaxNum, 1)) > 0 {
		return none
	}
	number := fromRat(r)
	switch {
	case number != none:
		return number
	case up:
		return whole(r, big.NewRat(1, 1))
	}
	return whole(r, new(big.Rat))
}

// toldEnds is told of min and max.
func toldEnds(op string, a, b api.Span, den int64, isNone bool) api.Span {
	r := api.Span{Den: den, None: isNone}
	if op == "min" {
		r.Lo, r.Hi = lesser(a.Lo, b.Lo, true), lesser(a.Hi, b.Hi, false)
	} else {
		r.Lo, r.Hi = greater(a.Lo, b.Lo, false), greater(a.Hi, b.Hi, true)
	}
	return r
}

// lesser returns the lesser end; an open one stays or gives way.
func lesser(a, b api.Q, stays bool) api.Q {
	switch {
	case a == none && b == none, (a == none || b == none) && stays:
		return none
	case a == none:
		return b
	case b == none:
		return a
	case rat(a).Cmp(rat(b)) < 0:
		return a
	}
	return b
}

// greater returns the greater end; an open one stays or gives way.
func greater(a, b api.Q, stays bool) api.Q {
	r := lesser(fromRat(opposite(rat(a))), fromRat(opposite(rat(b))), stays)
	return fromRat(opposite(rat(r)))
}

// toldOrder is told of lt and le.
func toldOrder(op string, a, b api.Span, isNone bool) api.Span {
	always, never := false, false
	if a.Hi != none && b.Lo != none {
		order := rat(a.Hi).Cmp(rat(b.Lo))
		always = order < 0 || op == "le" && order == 0
	}
	if a.Lo != none && b.Hi != none {
		order := rat(a.Lo).Cmp(rat(b.Hi))
		never = order > 0 || op == "lt" && order == 0
	}
	return decided(isNone, always, never)
}

// toldDigits is told of and, or, xor.
func toldDigits(op string, a, b api.Span, isNone bool) api.Span {
	for _, v := range []api.Span{a, b} {
		if v.Den != 1 || v.Lo == none || v.Lo.N < 0 || v.Hi == none {
			return all()
		}
	}
	hi := rat(lesser(a.Hi, b.Hi, false))
	if op != "and" {
		most := rat(greater(a.Hi, b.Hi, false))
		for k := 0; ; k++ {
			if hi = big.NewRat(1<<k-1, 1); hi.Cmp(most) >= 0 {
				break
			}
		}
	}
	return toldClosed(new(big.Rat), hi, big.NewInt(1), isNone)
}

// toldPick is told of pick.
func toldPick(sign, a, b api.Span) api.Span {
	if sign.Empty {
		return sign
	}
	var r api.Span
	switch {
	case !has(sign, q(0, 1)):
		r = b
	case sign.Lo == sign.Hi && sign.Lo != none:
		r = a
	default:
		r = toldJoin(a, b)
	}
	r.None = r.None || sign.None
	return r
}

// toldJoin is told of Join.
func toldJoin(a, b api.Span) api.Span {
	a, b = known(a), known(b)
	a.None = a.None || b.None
	b.None = a.None
	if a.Empty {
		return b
	}
	if b.Empty {
		return a
	}
	return api.Span{Lo: lesser(a.Lo, b.Lo, true), Hi: greater(a.Hi, b.Hi, true), Den: common(a.Den, b.Den).Int64(), None: a.None}
}
