package span_test

import (
	"math"
	"math/big"
	"math/rand"
	"strconv"
	"strings"

	"serinette/api"
)

// none is none itself.
var none = api.Q{}

// fromRat returns an exact result as a number, or none if it is beyond MaxNum.
func fromRat(r *big.Rat) api.Q {
	limit := big.NewInt(api.MaxNum)
	if r == nil || r.Num().CmpAbs(limit) > 0 || r.Denom().Cmp(limit) > 0 {
		return none
	}
	return api.Q{N: r.Num().Int64(), D: r.Denom().Int64()}
}

// q returns n / d, reduced by the tests themselves, so that they do not hang on package ratio.
func q(n, d int64) api.Q {
	return fromRat(big.NewRat(n, d))
}

// rat returns a number, or the end of a span, exactly; nil: none, or open.
func rat(v api.Q) *big.Rat {
	if v == none {
		return nil
	}
	return big.NewRat(v.N, v.D)
}

// number reads an end as the tables write it: a star, or a fraction in which M stands for MaxNum and a sign of its own for one more or less.
func number(text string) api.Q {
	if text == "*" {
		return none
	}
	for sign, n := range map[string]int64{"M+": api.MaxNum + 1, "M-": api.MaxNum - 1} {
		text = strings.ReplaceAll(text, sign, strconv.FormatInt(n, 10))
	}
	r, ok := new(big.Rat).SetString(strings.ReplaceAll(text, "M", strconv.Itoa(api.MaxNum)))
	if !ok || fromRat(r) == none {
		panic("no number in a table: " + text)
	}
	return fromRat(r)
}

// s reads a span as the tables write it: as Text does, but numbers as of number.
func s(text string) api.Span {
	ends, isNone := strings.CutSuffix(text, " none")
	if ends == "[]" {
		return api.Span{Empty: true, None: isNone}
	}
	ends, den, found := strings.Cut(strings.TrimPrefix(ends, "["), "]/")
	lo, hi, two := strings.Cut(ends, ",")
	if !found || !two {
		panic("no span in a table: " + text)
	}
	r := api.Span{Lo: number(lo), Hi: number(hi), None: isNone}
	if den != "0" {
		r.Den = number(den).N
	}
	return r
}

// list reads the spans between strokes.
func list(text string) []api.Span {
	var l []api.Span
	for _, t := range strings.Split(text, "|") {
		l = append(l, s(strings.TrimSpace(t)))
	}
	return l
}

// notNumbers returns none and what counts as it.
func notNumbers() []api.Q {
	return []api.Q{
		none, {N: 2, D: 4}, {N: 0, D: 2}, {N: 2, D: 2}, {N: 1, D: 0}, {N: 0, D: -1}, {N: 1, D: -1}, {N: -1, D: -2},
		{N: api.MaxNum + 1, D: 1}, {N: -api.MaxNum - 1, D: 1}, {N: 1, D: api.MaxNum + 1},
		{N: math.MinInt64, D: 1}, {N: math.MaxInt64, D: 1}, {N: 1, D: math.MaxInt64}, {N: math.MinInt64, D: math.MinInt64},
	}
}

// notValid returns spans that are not valid.
func notValid() []api.Span {
	l := []api.Span{
		{Lo: q(1, 1), Hi: q(0, 1), Den: 1}, {Lo: q(1, 2), Hi: q(1, 3)}, {Lo: q(0, 1), Hi: q(-1, 1), Den: 1, None: true}, {Lo: q(api.MaxNum, 1), Hi: q(api.MaxNum-1, 1), Den: 1},
		{Lo: q(0, 1), Hi: q(1, 1), Den: -1}, {Lo: q(0, 1), Hi: q(1, 1), Den: api.MaxNum + 1}, {Den: -1}, {Den: api.MaxNum + 1, None: true}, {Den: math.MinInt64}, {Den: math.MaxInt64},
		{Empty: true, Lo: q(0, 1)}, {Empty: true, Hi: q(0, 1)}, {Empty: true, Den: 1}, {Empty: true, Lo: q(0, 1), Hi: q(1, 1), Den: 1, None: true}, {Empty: true, Den: -1}, {Empty: true, Lo: api.Q{N: 2, D: 4}}, {Empty: true, Lo: q(1, 1), Hi: q(0, 1)},
	}
	for _, bad := range notNumbers() {
		if bad != none {
			l = append(l, api.Span{Lo: bad, Hi: q(1, 1), Den: 1}, api.Span{Lo: q(0, 1), Hi: bad, Den: 1}, api.Span{Lo: bad, Hi: bad}, api.Span{Lo: bad, None: true}, api.Span{Hi: bad})
		}
	}
	return l
}

// ends returns ends of spans: an open one, and numbers.
func ends() []api.Q {
	const m = api.MaxNum
	return []api.Q{
		none, q(-m, 1), q(1-m, 1), q(-m, 3), q(-5, 2), q(-1, 1), q(-1, 3), q(-1, m), q(0, 1), q(1, m), q(2, 40001), q(1, 3), q(1, 2), q(m-1, m),
		q(1, 1), q(m, m-1), q(40001, 40000), q(5, 2), q(3, 1), q(7, 1), q(8, 1), q(32768, 1), q(65535, 1), q(m/2, 1), q(m-1, 2), q(m-1, 1), q(m, 1),
	}
}

// dens returns Dens.
func dens() []int64 {
	return []int64{0, 1, 2, 3, 4, 6, 32768, 32769, 40000, 40001, api.MaxNum / 2, api.MaxNum - 1, api.MaxNum}
}

// emptySpans returns the spans without numbers.
func emptySpans() []api.Span {
	return []api.Span{{Empty: true}, {Empty: true, None: true}}
}

// validSpans returns all spans of ends and dens.
func validSpans() []api.Span {
	l := emptySpans()
	for _, lo := range ends() {
		for _, hi := range ends() {
			if lo != none && hi != none && rat(lo).Cmp(rat(hi)) > 0 {
				continue
			}
			for _, den := range dens() {
				l = append(l, api.Span{Lo: lo, Hi: hi, Den: den}, api.Span{Lo: lo, Hi: hi, Den: den, None: true})
			}
		}
	}
	return l
}

// points returns spans of one number, of Dens that it has and others.
func points() []api.Span {
	var l []api.Span
	for _, v := range []api.Q{q(0, 1), q(1, 1), q(-1, 1), q(1, 2), q(-3, 2), q(4, 1), q(api.MaxNum, 1), q(1, api.MaxNum), q(-api.MaxNum, api.MaxNum-1)} {
		l = append(l, api.Span{Lo: v, Hi: v, Den: v.D}, api.Span{Lo: v, Hi: v}, api.Span{Lo: v, Hi: v, Den: 1, None: true})
	}
	return l
}

// someSpans returns n of the valid spans, with points, Empty ones and some that are not valid among them.
func someSpans(n int) []api.Span {
	l := append(append(emptySpans(), points()...), notValid()[:6]...)
	for _, text := range []string{"[*,*]/0", "[*,*]/0 none", "[*,*]/1", "[0,1]/1", "[0,*]/1", "[*,0]/1", "[0,5/2]/1", "[0,1]/2", "[2,3]/1", "[1,3]/1", "[-1,1]/1", "[0,1]/M", "[0,12]/1 none", "[0,M]/1", "[-2,-1]/1"} {
		l = append(l, s(text))
	}
	all := validSpans()
	random := rand.New(rand.NewSource(3))
	for len(l) < n {
		l = append(l, all[random.Intn(len(all))])
	}
	return l
}

// known returns a span as what it counts as, by the chapter's words.
func known(v api.Span) api.Span {
	if isValid(v) {
		return v
	}
	return api.Span{None: true}
}

// isValid tells by the chapter's words whether v is a span.
func isValid(v api.Span) bool {
	for _, end := range []api.Q{v.Lo, v.Hi} {
		if end != none && (end.D < 1 || q(end.N, end.D) != end) {
			return false
		}
	}
	if v.Empty && (v.Lo != none || v.Hi != none || v.Den != 0) {
		return false
	}
	if v.Lo != none && v.Hi != none && rat(v.Lo).Cmp(rat(v.Hi)) > 0 {
		return false
	}
	return v.Den >= 0 && v.Den <= api.MaxNum
}

// has tells by the chapter's words whether v has the number.
func has(v api.Span, number api.Q) bool {
	v = known(v)
	r := rat(number)
	switch {
	case v.Empty:
		return false
	case v.Lo != none && r.Cmp(rat(v.Lo)) < 0, v.Hi != none && r.Cmp(rat(v.Hi)) > 0:
		return false
	}
	return v.Den == 0 || v.Den%number.D == 0
}

// members returns numbers of v, and none if it is in v: the ends, the next ones of the Den, and some between.
func members(v api.Span) []api.Q {
	v = known(v)
	den := max(v.Den, 1)
	var l []api.Q
	try := func(number api.Q) {
		if number != none && has(v, number) {
			l = append(l, number)
		}
	}
	for _, end := range []api.Q{v.Lo, v.Hi} {
		try(end)
		if end != none {
			k := new(big.Int).Div(new(big.Int).Mul(big.NewInt(end.N), big.NewInt(den)), big.NewInt(end.D)).Int64()
			for i := int64(-1); i <= 2; i++ {
				try(q(k+i, den))
			}
		}
	}
	for _, number := range []api.Q{q(0, 1), q(1, 1), q(-1, 1), q(1, den), q(-3, den), q(1, 2), q(5, 1), q(-7, 3), q(api.MaxNum, 1), q(-api.MaxNum, 1), q(api.MaxNum-1, den), q(1, api.MaxNum)} {
		try(number)
	}
	if v.None {
		l = append(l, none)
	}
	return l
}

// membersOf returns the members of each span.
func membersOf(l []api.Span) [][]api.Q {
	var of [][]api.Q
	for _, v := range l {
		of = append(of, members(v))
	}
	return of
}
