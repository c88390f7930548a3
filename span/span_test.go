package span_test

import (
	"math"
	"math/big"
	"testing"

	"serinette/api"
	"serinette/span"
)

// P3.1: Valid of all kinds of spans.
func TestValid(t *testing.T) {
	for _, v := range validSpans() {
		if !span.Valid(v) {
			t.Errorf("Valid(%v) is false", v)
		}
	}
	for _, v := range notValid() {
		if span.Valid(v) {
			t.Errorf("Valid(%v) is true", v)
		}
	}
}

// P3.1: a span that is not valid counts as All, for each function.
func TestNotValidCountsAsAll(t *testing.T) {
	format := api.Format{Kind: "fix", I: 1, F: 2, Round: "near", Over: "none"}
	others := list("[0,1]/2 | [] | [] none | [*,*]/0 | [*,*]/0 none | [1,*]/0 none | [0,0]/1")
	for _, v := range notValid() {
		if got := span.Text(v); got != "[*,*]/0 none" {
			t.Errorf("Text(%v): got %s", v, got)
		}
		if got, want := span.Fit(format, v), s("[-2,7/4]/4 none"); got != want {
			t.Errorf("Fit(%v): got %v", v, got)
		}
		for _, number := range append(notNumbers(), q(0, 1), q(-1, 3), q(api.MaxNum, 1)) {
			if !span.Has(v, number) {
				t.Errorf("Has(%v, %v) is false", v, number)
			}
		}
		for _, other := range others {
			same := func(name string, got, want api.Span) {
				if got != want {
					t.Errorf("%s of %v and %v: got %v, want %v", name, v, other, got, want)
				}
			}
			same("Join", span.Join(v, other), span.Join(all(), other))
			same("Join", span.Join(other, v), span.Join(other, all()))
			same("Meet", span.Meet(v, other), span.Meet(all(), other))
			same("Meet", span.Meet(other, v), span.Meet(other, all()))
			same("Widen", span.Widen(v, other), span.Widen(all(), other))
			same("Widen", span.Widen(other, v), span.Widen(other, all()))
			if span.Within(v, other) != span.Within(all(), other) || span.Within(other, v) != span.Within(other, all()) {
				t.Errorf("Within of %v and %v", v, other)
			}
		}
	}
}

// P3.1: All, and Point of numbers and of what counts as none.
func TestAllAndPoint(t *testing.T) {
	if got := span.All(); got != s("[*,*]/0 none") {
		t.Errorf("All: got %v", got)
	}
	for _, v := range ends() {
		want := api.Span{Lo: v, Hi: v, Den: v.D}
		if v == none {
			want = s("[] none")
		}
		if got := span.Point(v); got != want || !span.Valid(got) {
			t.Errorf("Point(%v): got %v, want %v", v, got, want)
		}
	}
	for _, bad := range notNumbers() {
		if got := span.Point(bad); got != s("[] none") {
			t.Errorf("Point(%v): got %v", bad, got)
		}
	}
}

// P3.1: Make, written out.
func TestMakeNamed(t *testing.T) {
	for _, c := range []struct {
		lo, hi string
		den    int64
		want   string
	}{
		{"0", "1", 1, "[0,1]/1"}, {"0", "1", 0, "[0,1]/0"}, {"-1/3", "1/2", 6, "[-1/3,1/2]/6"}, {"1/3", "1/3", 2, "[1/3,1/3]/2"}, {"-M", "M", api.MaxNum, "[-M,M]/M"},
		{"*", "1", 4, "[*,1]/4"}, {"0", "*", 4, "[0,*]/4"}, {"*", "*", 4, "[*,*]/4"}, {"*", "*", 0, "[*,*]/0"},
		{"1", "0", 1, "[]"}, {"1/2", "1/3", 6, "[]"}, {"M", "M-", 0, "[]"}, {"1/M", "0", 5, "[]"}, {"1", "0", -1, "[]"}, {"1", "0", api.MaxNum + 1, "[]"},
		{"0", "1", -1, "[0,1]/0"}, {"0", "1", api.MaxNum + 1, "[0,1]/0"}, {"0", "1", math.MinInt64, "[0,1]/0"}, {"*", "1", math.MaxInt64, "[*,1]/0"},
	} {
		if got := span.Make(number(c.lo), number(c.hi), c.den); got != s(c.want) {
			t.Errorf("Make(%s, %s, %d): got %v, want %s", c.lo, c.hi, c.den, got, c.want)
		}
	}
	for _, bad := range notNumbers() {
		if got := span.Make(bad, q(1, 1), 3); got != s("[*,1]/3") {
			t.Errorf("Make(%v, 1, 3): got %v", bad, got)
		}
		if got := span.Make(q(1, 1), bad, 3); got != s("[1,*]/3") {
			t.Errorf("Make(1, %v, 3): got %v", bad, got)
		}
		if got := span.Make(bad, bad, 3); got != s("[*,*]/3") {
			t.Errorf("Make(%v twice, 3): got %v", bad, got)
		}
	}
}

// P3.1: Make of all ends and Dens.
func TestMake(t *testing.T) {
	for _, v := range validSpans() {
		if v.Empty {
			continue
		}
		v.None = false
		if got := span.Make(v.Lo, v.Hi, v.Den); got != v {
			t.Errorf("Make(%v, %v, %d): got %v", v.Lo, v.Hi, v.Den, got)
		}
		if v.Lo != none && v.Hi != none && v.Lo != v.Hi {
			if got := span.Make(v.Hi, v.Lo, v.Den); got != s("[]") {
				t.Errorf("Make(%v, %v, %d): got %v", v.Hi, v.Lo, v.Den, got)
			}
		}
	}
}

// P3.1: Has, written out.
func TestHasNamed(t *testing.T) {
	for _, c := range []struct {
		span, number string
		want         bool
	}{
		{"[0,1]/1", "0", true}, {"[0,1]/1", "1", true}, {"[0,1]/1", "1/2", false}, {"[0,1]/1", "2", false}, {"[0,1]/1", "-1", false}, {"[0,1]/1", "*", false}, {"[0,1]/1 none", "*", true},
		{"[0,1]/6", "1/2", true}, {"[0,1]/6", "1/3", true}, {"[0,1]/6", "5/6", true}, {"[0,1]/6", "1/4", false}, {"[0,1]/0", "1/M", true}, {"[0,1]/M", "1/M", true}, {"[0,1]/M", "1/3", false},
		{"[1/3,1/3]/2", "1/3", false}, {"[1/3,1/3]/0", "1/3", true}, {"[*,0]/1", "-M", true}, {"[*,0]/1", "1", false}, {"[0,*]/1", "M", true}, {"[0,*]/1", "-1", false}, {"[*,*]/2", "1/2", true}, {"[*,*]/2", "1/4", false},
		{"[*,*]/0", "1/M", true}, {"[*,*]/0", "*", false}, {"[*,*]/0 none", "*", true}, {"[]", "0", false}, {"[] none", "0", false}, {"[]", "*", false}, {"[] none", "*", true},
		{"[1/3,1/2]/0", "2/5", true}, {"[1/3,1/2]/0", "333333/1000000", false}, {"[1/3,1/2]/0", "500001/1000000", false}, {"[-1,-1/2]/2", "-3/2", false}, {"[-1,-1/2]/2", "-1/2", true},
	} {
		if got := span.Has(s(c.span), number(c.number)); got != c.want {
			t.Errorf("Has(%s, %s): got %v", c.span, c.number, got)
		}
	}
}

// P3.1: Has of all spans; what counts as none.
func TestHas(t *testing.T) {
	for _, v := range append(validSpans(), notValid()...) {
		for _, number := range ends()[1:] {
			if got, want := span.Has(v, number), has(v, number); got != want {
				t.Errorf("Has(%v, %v): got %v", v, number, got)
			}
		}
		for _, bad := range notNumbers() {
			if got, want := span.Has(v, bad), known(v).None; got != want {
				t.Errorf("Has(%v, %v): got %v", v, bad, got)
			}
		}
	}
}

// P3.1: Within, written out.
func TestWithinNamed(t *testing.T) {
	for _, c := range []struct {
		a, b string
		want bool
	}{
		{"[0,1]/1", "[0,1]/1", true}, {"[0,1]/1", "[0,2]/1", true}, {"[0,2]/1", "[0,1]/1", false}, {"[-1,1]/1", "[0,1]/1", false}, {"[1/3,1/2]/6", "[0,1]/6", true},
		{"[0,1]/2", "[0,1]/6", true}, {"[0,1]/6", "[0,1]/2", false}, {"[0,1]/2", "[0,1]/3", false}, {"[0,1]/2", "[0,1]/0", true}, {"[0,1]/0", "[0,1]/0", true}, {"[0,1]/0", "[0,1]/2", false}, {"[0,1]/0", "[0,1]/M", false},
		{"[*,1]/1", "[*,1]/1", true}, {"[*,1]/1", "[-M,1]/1", false}, {"[-M,1]/1", "[*,1]/1", true}, {"[0,*]/1", "[0,*]/1", true}, {"[0,*]/1", "[0,M]/1", false}, {"[0,M]/1", "[0,*]/1", true}, {"[*,*]/1", "[*,*]/1", true}, {"[*,*]/1", "[*,0]/1", false}, {"[*,*]/1", "[0,*]/1", false},
		{"[0,1]/1 none", "[0,1]/1", false}, {"[0,1]/1", "[0,1]/1 none", true}, {"[0,1]/1 none", "[0,1]/1 none", true}, {"[0,1]/1 none", "[*,*]/0", false}, {"[0,1]/0 none", "[*,*]/0 none", true},
		{"[]", "[]", true}, {"[]", "[] none", true}, {"[] none", "[]", false}, {"[] none", "[] none", true}, {"[]", "[0,1]/1", true}, {"[] none", "[0,1]/1", false}, {"[] none", "[0,1]/1 none", true},
		{"[0,1]/1", "[]", false}, {"[*,*]/0", "[]", false}, {"[*,*]/0", "[] none", false}, {"[*,*]/1 none", "[] none", false}, {"[1/3,1/3]/2", "[]", false},
	} {
		if got := span.Within(s(c.a), s(c.b)); got != c.want {
			t.Errorf("Within(%s, %s): got %v", c.a, c.b, got)
		}
	}
}

// isWithin tells by the chapter's words whether a is within b.
func isWithin(a, b api.Span) bool {
	a, b = known(a), known(b)
	switch {
	case a.None && !b.None:
		return false
	case a.Empty:
		return true
	case b.Empty:
		return false
	case b.Lo != none && (a.Lo == none || rat(a.Lo).Cmp(rat(b.Lo)) < 0), b.Hi != none && (a.Hi == none || rat(a.Hi).Cmp(rat(b.Hi)) > 0):
		return false
	}
	return b.Den == 0 || a.Den != 0 && b.Den%a.Den == 0
}

// P3.1: Within of many spans; what is within has nothing that the other one has not.
func TestWithin(t *testing.T) {
	l := someSpans(300)
	for _, a := range l {
		for _, b := range l {
			got := span.Within(a, b)
			if got != isWithin(a, b) {
				t.Errorf("Within(%v, %v): got %v", a, b, got)
			}
			if !got {
				continue
			}
			for _, number := range members(a) {
				if !span.Has(b, number) {
					t.Errorf("%v is within %v, which has not %v", a, b, number)
				}
			}
		}
	}
}

// joins, meets and widens are the tables of Join, Meet and Widen: of two spans, the third.
func joins() []string {
	return []string{
		"[0,1]/1 | [2,3]/1 | [0,3]/1", "[0,1]/2 | [2,3]/3 | [0,3]/6", "[0,1]/4 | [0,1]/6 | [0,1]/12", "[0,1]/0 | [0,1]/6 | [0,1]/0", "[0,1]/6 | [0,1]/0 | [0,1]/0", "[0,1]/M | [0,1]/2 | [0,1]/M", "[0,1]/M | [0,1]/3 | [0,1]/0",
		"[0,1]/32768 | [0,1]/32769 | [0,1]/0", "[0,1]/32768 | [0,1]/32767 | [0,1]/1073709056", "[0,1]/M | [0,1]/M- | [0,1]/0", "[0,1]/M | [0,1]/M | [0,1]/M", "[0,1]/0 | [0,1]/0 | [0,1]/0",
		"[*,1]/1 | [0,3]/1 | [*,3]/1", "[0,1]/1 | [0,*]/1 | [0,*]/1", "[*,1]/1 | [0,*]/1 | [*,*]/1", "[*,1]/1 | [*,2]/1 | [*,2]/1", "[-M,0]/1 | [0,M]/1 | [-M,M]/1", "[-1/2,-1/3]/6 | [-2/3,-3/5]/15 | [-2/3,-1/3]/30",
		"[0,1]/1 none | [2,3]/1 | [0,3]/1 none", "[0,1]/1 | [2,3]/1 none | [0,3]/1 none", "[0,1]/1 none | [2,3]/1 none | [0,3]/1 none",
		"[] | [1,2]/3 | [1,2]/3", "[1,2]/3 | [] | [1,2]/3", "[] none | [1,2]/3 | [1,2]/3 none", "[1,2]/3 | [] none | [1,2]/3 none", "[] | [1,2]/3 none | [1,2]/3 none", "[] | [1,*]/0 | [1,*]/0",
		"[] | [] | []", "[] none | [] | [] none", "[] | [] none | [] none", "[] none | [] none | [] none", "[*,*]/0 none | [] | [*,*]/0 none",
	}
}

func meets() []string {
	return []string{
		"[0,2]/1 | [1,3]/1 | [1,2]/1", "[0,2]/4 | [1,3]/6 | [1,2]/2", "[0,2]/0 | [1,3]/6 | [1,2]/6", "[0,2]/6 | [1,3]/0 | [1,2]/6", "[0,2]/0 | [1,3]/0 | [1,2]/0", "[0,2]/M | [1,3]/M- | [1,2]/1", "[0,2]/M | [1,3]/1024 | [1,2]/1024",
		"[*,2]/1 | [1,3]/1 | [1,2]/1", "[1,3]/1 | [*,2]/1 | [1,2]/1", "[1,3]/1 | [2,*]/1 | [2,3]/1", "[2,*]/1 | [1,3]/1 | [2,3]/1", "[*,2]/1 | [*,3]/1 | [*,2]/1", "[1,*]/1 | [2,*]/1 | [2,*]/1", "[*,*]/0 | [*,*]/2 | [*,*]/2", "[*,2]/1 | [1,*]/1 | [1,2]/1", "[*,1]/1 | [2,*]/1 | []",
		"[0,1]/1 | [2,3]/1 | []", "[2,3]/1 | [0,1]/1 | []", "[0,1]/1 | [1,2]/1 | [1,1]/1", "[0,1]/1 none | [2,3]/1 none | [] none", "[0,1]/1 none | [2,3]/1 | []", "[0,1]/1 none | [0,1]/1 | [0,1]/1", "[0,1]/1 | [0,1]/1 none | [0,1]/1", "[0,1]/1 none | [0,1]/1 none | [0,1]/1 none",
		"[] | [0,1]/1 | []", "[0,1]/1 | [] | []", "[] none | [0,1]/1 | []", "[] none | [0,1]/1 none | [] none", "[0,1]/1 none | [] none | [] none", "[] | [0,1]/1 none | []", "[] | [] | []", "[] none | [] | []", "[] none | [] none | [] none", "[*,*]/0 none | [] none | [] none",
	}
}

func widens() []string {
	return []string{
		"[0,1]/1 | [0,1]/1 | [0,1]/1", "[0,2]/2 | [1,1]/1 | [0,2]/2", "[0,1]/1 | [0,2]/1 | [0,*]/1", "[0,1]/1 | [-1,1]/1 | [*,1]/1", "[0,1]/1 | [-1,2]/1 | [*,*]/1", "[0,1]/1 | [1,1]/2 | [0,1]/0", "[0,1]/2 | [0,2]/3 | [0,*]/0", "[0,1]/6 | [0,1]/2 | [0,1]/6", "[0,1]/0 | [0,1]/2 | [0,1]/0", "[0,1]/2 | [0,1]/0 | [0,1]/0",
		"[*,1]/1 | [-5,2]/1 | [*,*]/1", "[0,*]/1 | [0,7]/1 | [0,*]/1", "[0,1]/1 | [*,*]/1 | [*,*]/1", "[0,1]/1 | [*,1]/1 | [*,1]/1", "[0,1]/1 | [0,*]/1 | [0,*]/1", "[0,1]/M | [0,1]/3 | [0,1]/0",
		"[0,1]/1 none | [0,1]/1 | [0,1]/1 none", "[0,1]/1 | [0,1]/1 none | [0,1]/1 none", "[0,1]/1 | [0,2]/1 none | [0,*]/1 none",
		"[] | [1,2]/3 | [1,2]/3", "[] none | [1,2]/3 | [1,2]/3 none", "[] | [1,2]/3 none | [1,2]/3 none", "[1,2]/3 | [] | [1,2]/3", "[1,2]/3 | [] none | [1,2]/3 none", "[] | [] | []", "[] | [] none | [] none", "[] none | [] | [] none", "[] | [*,*]/0 none | [*,*]/0 none",
	}
}

// P3.1: Join, Meet and Widen, written out.
func TestJoinMeetWidenNamed(t *testing.T) {
	for _, c := range []struct {
		name string
		op   func(a, b api.Span) api.Span
		rows []string
	}{
		{"Join", span.Join, joins()}, {"Meet", span.Meet, meets()}, {"Widen", span.Widen, widens()},
	} {
		for _, row := range c.rows {
			l := list(row)
			if got := c.op(l[0], l[1]); got != l[2] {
				t.Errorf("%s of %s: got %v", c.name, row, got)
			}
		}
	}
}

// toldMeet is what the chapter tells of Meet.
func toldMeet(a, b api.Span) api.Span {
	a, b = known(a), known(b)
	r := api.Span{Lo: greater(a.Lo, b.Lo, false), Hi: lesser(a.Hi, b.Hi, false), Den: max(a.Den, b.Den)}
	if a.Den != 0 && b.Den != 0 {
		r.Den = new(big.Int).GCD(nil, nil, big.NewInt(a.Den), big.NewInt(b.Den)).Int64()
	}
	if a.Empty || b.Empty || r.Lo != none && r.Hi != none && rat(r.Lo).Cmp(rat(r.Hi)) > 0 {
		r = api.Span{Empty: true}
	}
	r.None = a.None && b.None
	return r
}

// toldWiden is what the chapter tells of Widen.
func toldWiden(a, b api.Span) api.Span {
	a, b = known(a), known(b)
	r := toldJoin(a, b)
	if a.Empty {
		return r
	}
	if b.Lo == none && !b.Empty || b.Lo != none && a.Lo != none && rat(b.Lo).Cmp(rat(a.Lo)) < 0 {
		r.Lo = none
	}
	if b.Hi == none && !b.Empty || b.Hi != none && a.Hi != none && rat(b.Hi).Cmp(rat(a.Hi)) > 0 {
		r.Hi = none
	}
	if r.Den != a.Den {
		r.Den = 0
	}
	return r
}

// P3.1: Join, Meet and Widen of many spans.
func TestJoinMeetWiden(t *testing.T) {
	l := someSpans(400)
	for _, a := range l {
		for _, b := range l {
			if got, want := span.Join(a, b), toldJoin(a, b); got != want {
				t.Errorf("Join(%v, %v): got %v, want %v", a, b, got, want)
			}
			if got, want := span.Meet(a, b), toldMeet(a, b); got != want {
				t.Errorf("Meet(%v, %v): got %v, want %v", a, b, got, want)
			}
			if got, want := span.Widen(a, b), toldWiden(a, b); got != want {
				t.Errorf("Widen(%v, %v): got %v, want %v", a, b, got, want)
			}
		}
	}
}
