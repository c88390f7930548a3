package span_test

import (
	"slices"
	"testing"

	"serinette/api"
	"serinette/quant"
	"serinette/ratio"
	"serinette/span"
)

// ofOne returns what an op makes of a number.
func ofOne(op string, a api.Q) api.Q {
	switch op {
	case "neg":
		return ratio.Neg(a)
	case "abs":
		return ratio.Abs(a)
	case "floor":
		return ratio.Floor(a)
	case "round":
		return ratio.Round(a)
	case "frac":
		return ratio.Frac(a)
	}
	return ratio.Test("eq", a, q(0, 1))
}

// ofTwo returns what an op makes of two numbers.
func ofTwo(op string, a, b api.Q) api.Q {
	switch op {
	case "add":
		return ratio.Add(a, b)
	case "sub":
		return ratio.Sub(a, b)
	case "mul":
		return ratio.Mul(a, b)
	case "div":
		return ratio.Div(a, b)
	case "mod":
		return ratio.Mod(a, b)
	case "min":
		return ratio.Min(a, b)
	case "max":
		return ratio.Max(a, b)
	case "lt", "le", "eq", "ne":
		return ratio.Test(op, a, b)
	}
	return ratio.Bits(op, a, b)
}

// ofPick returns what pick makes of three numbers.
func ofPick(sign, a, b api.Q) api.Q {
	switch {
	case sign == none:
		return none
	case sign == q(0, 1):
		return a
	}
	return b
}

// must returns Op's span.
func must(t *testing.T, op string, l ...api.Span) api.Span {
	t.Helper()
	r, err := span.Op(op, l)
	if err != api.OK {
		t.Errorf("Op(%s, %v): %v", op, l, err)
	}
	return r
}

// P3.4: what comes of a number of the span is in the span that is told; fit, too.
func TestOpOfOneHasTheResult(t *testing.T) {
	for _, v := range append(validSpans(), notValid()...) {
		l := members(v)
		for _, op := range unary() {
			r := must(t, op, v)
			for _, a := range l {
				if got := ofOne(op, a); !span.Has(r, got) {
					t.Errorf("%s of %v, a number of %v: %v is not in %v", op, a, v, got, r)
				}
			}
		}
	}
	for _, f := range append(formats(), noFormats()...) {
		for _, v := range someSpans(700) {
			r := span.Fit(f, v)
			for _, a := range members(v) {
				if got := quant.Fit(f, a); !span.Has(r, got) {
					t.Errorf("%v fitted to %v, a number of %v: %v is not in %v", a, f, v, got, r)
				}
			}
		}
	}
}

// P3.4: what comes of numbers of two spans is in the span that is told; Join and Widen have both, and Meet what both have.
func TestOpOfTwoHasTheResult(t *testing.T) {
	spans := someSpans(180)
	of := membersOf(spans)
	for i, v := range spans {
		for j, w := range spans {
			for _, op := range binary() {
				r := must(t, op, v, w)
				for _, a := range of[i] {
					for _, b := range of[j] {
						if got := ofTwo(op, a, b); !span.Has(r, got) {
							t.Errorf("%s of %v and %v, of %v and %v: %v is not in %v", op, a, b, v, w, got, r)
						}
					}
				}
			}
		}
	}
}

// P3.4: pick; each number of each span is taken once or more.
func TestPickHasTheResult(t *testing.T) {
	spans := someSpans(60)
	of := membersOf(spans)
	for i, u := range spans {
		for j, v := range spans {
			for k, w := range spans {
				if len(of[j]) == 0 || len(of[k]) == 0 {
					continue
				}
				r := must(t, "pick", u, v, w)
				for _, sign := range of[i] {
					for n := range max(len(of[j]), len(of[k])) {
						a, b := of[j][n%len(of[j])], of[k][n%len(of[k])]
						if got := ofPick(sign, a, b); !span.Has(r, got) {
							t.Errorf("pick of %v, %v and %v, of %v, %v and %v: %v is not in %v", sign, a, b, u, v, w, got, r)
						}
					}
				}
			}
		}
	}
}

// P3.4: Join and Widen have both; Meet has what both have, and nothing that one has not where no none comes of it.
func TestJoinMeetWidenHave(t *testing.T) {
	l := someSpans(260)
	of := membersOf(l)
	for i, a := range l {
		for j, b := range l {
			join, meet, widen := span.Join(a, b), span.Meet(a, b), span.Widen(a, b)
			if !span.Within(a, join) || !span.Within(b, join) || !span.Within(join, widen) {
				t.Errorf("%v, %v: Join %v, Widen %v", a, b, join, widen)
			}
			for _, number := range slices.Concat(of[i], of[j]) {
				if !span.Has(join, number) || !span.Has(widen, number) {
					t.Errorf("Join %v or Widen %v of %v and %v have not %v", join, widen, a, b, number)
				}
				if span.Has(meet, number) != (span.Has(a, number) && span.Has(b, number)) {
					t.Errorf("Meet %v of %v and %v, and %v", meet, a, b, number)
				}
			}
		}
	}
}

// P3.4: a chain of Widen comes to a stop behind 5 changes, which some chain takes.
func TestWidenStops(t *testing.T) {
	l := append(list("[] none | [0,0]/1 | [-1,0]/1 | [-1,1]/1 | [0,0]/2"), someSpans(300)...)
	most := 0
	for start := range 6 {
		for step := 1; step < 40; step++ {
			now, changes := s("[]"), 0
			for i := range 3 * len(l) {
				next := span.Widen(now, l[(start+i*step)%len(l)])
				if next != now {
					changes++
				}
				now = next
			}
			if changes > 5 {
				t.Errorf("a chain changes %d times", changes)
			}
			most = max(most, changes)
		}
	}
	if most != 5 {
		t.Errorf("no chain takes 5 changes, but %d", most)
	}
}

// P3.4: what is in spans that have no None stays a number, as far as the told span has none.
func TestNoNoneNoNone(t *testing.T) {
	for _, c := range []struct {
		op, row string
		isNone  bool
	}{
		{"add", "[0,536870912]/1 | [0,536870912]/1", false}, {"add", "[0,536870912]/1 | [0,536870913]/1", true}, {"mul", "[-32768,32768]/1 | [-32768,32768]/1", false}, {"mul", "[-1,1]/32768 | [-1,1]/32768", false}, {"mul", "[-1,1]/32768 | [-2,1]/32768", true},
		{"sub", "[0,1]/1 | [0,1]/0", true}, {"min", "[0,1]/0 | [*,1]/0", false}, {"abs", "[*,*]/0", false}, {"frac", "[*,*]/0", false}, {"floor", "[*,*]/0", false}, {"div", "[0,1]/1 | [2,2]/1", false}, {"div", "[0,1]/1 | [0,0]/1", true},
	} {
		if r := must(t, c.op, list(c.row)...); r.None != c.isNone {
			t.Errorf("%s of %s: %v", c.op, c.row, r)
		}
	}
}
