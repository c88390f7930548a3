package span_test

import (
	"testing"

	"serinette/api"
	"serinette/quant"
	"serinette/span"
)

// format reads a format as Parse does.
func format(text string) api.Format {
	f, err := quant.Parse(text)
	if err != api.OK {
		panic("no format in a table: " + text)
	}
	return f
}

// formats returns formats of both kinds with each Round and Over.
func formats() []api.Format {
	var l []api.Format
	for _, round := range []string{"floor", "near", "zero"} {
		for _, over := range []string{"sat", "none", "wrap"} {
			for _, sizes := range [][2]int{{1, 2}, {0, 0}, {3, 1}, {30, 0}, {0, 30}, {15, 15}} {
				l = append(l, api.Format{Kind: "fix", I: sizes[0], F: sizes[1], Round: round, Over: over})
			}
			for _, sizes := range [][2]int{{2, 1}, {1, 0}, {24, 6}, {10, 20}} {
				if over != "wrap" {
					l = append(l, api.Format{Kind: "float", I: sizes[0], F: sizes[1], Round: round, Over: over})
				}
			}
		}
	}
	return l
}

// noFormats returns formats that are not valid.
func noFormats() []api.Format {
	return []api.Format{
		{}, {Kind: "fix", I: 1, F: 2}, {Kind: "fix", I: -1, F: 2, Round: "near", Over: "sat"}, {Kind: "fix", I: 1, F: 30, Round: "near", Over: "wrap"}, {Kind: "fix", I: 1, F: 2, Round: "up", Over: "sat"}, {Kind: "fix", I: 1, F: 2, Round: "near", Over: "clip"},
		{Kind: "float", I: 2, F: 1, Round: "near", Over: "wrap"}, {Kind: "float", I: 0, F: 1, Round: "near", Over: "sat"}, {Kind: "int", I: 2, F: 1, Round: "near", Over: "none"},
	}
}

// P3.3: Fit, written out.
func TestFitNamed(t *testing.T) {
	for _, c := range []struct{ format, row string }{
		{"fix(1,2,near,sat)", "[0,1]/8 | [0,1]/4"}, {"fix(1,2,near,sat)", "[1/8,3/8]/8 | [0,1/2]/4"}, {"fix(1,2,near,sat)", "[-5,5]/1 | [-2,7/4]/4"}, {"fix(1,2,near,sat)", "[*,1]/0 | [-2,1]/4"}, {"fix(1,2,near,sat)", "[0,*]/0 none | [0,7/4]/4 none"}, {"fix(1,2,near,sat)", "[*,*]/0 | [-2,7/4]/4"}, {"fix(1,2,near,sat)", "[5,7]/1 | [7/4,7/4]/4"}, {"fix(1,2,near,sat)", "[*,-3]/1 | [-2,-2]/4"}, {"fix(1,2,near,sat)", "[3,*]/1 | [7/4,7/4]/4"}, {"fix(1,2,near,sat)", "[-7,-5]/1 none | [-2,-2]/4 none"},
		{"fix(1,2,floor,sat)", "[-1/8,3/8]/8 | [-1/4,1/4]/4"}, {"fix(1,2,zero,sat)", "[-1/8,3/8]/8 | [0,1/4]/4"},
		{"fix(1,2,near,wrap)", "[0,1]/8 | [0,1]/4"}, {"fix(1,2,near,wrap)", "[-2,7/4]/0 | [-2,7/4]/4"}, {"fix(1,2,near,wrap)", "[0,2]/1 none | [-2,7/4]/4 none"}, {"fix(1,2,near,wrap)", "[5/2,5/2]/2 | [-2,7/4]/4"}, {"fix(1,2,near,wrap)", "[-3,0]/1 | [-2,7/4]/4"}, {"fix(1,2,near,wrap)", "[*,0]/1 | [-2,7/4]/4"}, {"fix(1,2,near,wrap)", "[0,*]/1 | [-2,7/4]/4"}, {"fix(1,2,near,wrap)", "[*,*]/0 none | [-2,7/4]/4 none"}, {"fix(1,2,near,wrap)", "[-5,-5]/1 | [-2,7/4]/4"}, {"fix(1,2,floor,wrap)", "[0,15/8]/8 | [-2,7/4]/4"}, {"fix(1,2,zero,wrap)", "[-17/8,1]/8 | [-2,7/4]/4"}, {"fix(1,2,near,wrap)", "[1,3]/1 | [-2,7/4]/4"}, {"fix(1,2,near,wrap)", "[1/8,3/8]/8 | [0,1/2]/4"},
		{"fix(1,2,near,none)", "[0,1]/8 | [0,1]/4"}, {"fix(1,2,near,none)", "[0,1]/8 none | [0,1]/4 none"}, {"fix(1,2,near,none)", "[0,2]/1 | [0,7/4]/4 none"}, {"fix(1,2,near,none)", "[-3,0]/1 | [-2,0]/4 none"}, {"fix(1,2,near,none)", "[-3,3]/1 | [-2,7/4]/4 none"}, {"fix(1,2,near,none)", "[3,5]/1 | [-2,7/4]/4 none"}, {"fix(1,2,near,none)", "[-5,-3]/1 | [-2,7/4]/4 none"}, {"fix(1,2,near,none)", "[*,1]/1 | [-2,1]/4 none"}, {"fix(1,2,near,none)", "[1,*]/1 | [1,7/4]/4 none"}, {"fix(1,2,near,none)", "[*,*]/0 | [-2,7/4]/4 none"}, {"fix(1,2,near,none)", "[*,-3]/1 | [-2,7/4]/4 none"}, {"fix(1,2,near,none)", "[3,*]/1 none | [-2,7/4]/4 none"},
		{"fix(1,2,near,none)", "[0,15/8]/8 | [0,7/4]/4 none"}, {"fix(1,2,floor,none)", "[0,15/8]/8 | [0,7/4]/4"}, {"fix(1,2,zero,none)", "[-17/8,15/8]/8 | [-2,7/4]/4"}, {"fix(1,2,floor,none)", "[-17/8,15/8]/8 | [-2,7/4]/4 none"}, {"fix(1,2,near,none)", "[-17/8,0]/8 | [-2,0]/4"}, {"fix(1,2,near,none)", "[-19/8,0]/8 | [-2,0]/4 none"},
		{"fix(0,0,near,sat)", "[-5,5]/0 | [-1,0]/1"}, {"fix(0,30,floor,sat)", "[0,1/3]/3 | [0,357913941/M]/M"}, {"fix(30,0,near,sat)", "[-M,M]/2 | [-M,M-]/1"}, {"fix(30,0,near,none)", "[-M,M]/2 | [-M,M-]/1 none"},
		{"float(2,1,near,sat)", "[0,5]/1 | [0,4]/2"}, {"float(2,1,near,sat)", "[-7,9/4]/4 | [-6,2]/2"}, {"float(2,1,near,sat)", "[*,*]/0 none | [-6,6]/2 none"}, {"float(2,1,near,none)", "[0,13/2]/2 | [0,6]/2"}, {"float(2,1,near,none)", "[0,7]/2 | [0,6]/2 none"}, {"float(2,1,near,none)", "[8,9]/1 | [-6,6]/2 none"}, {"float(2,1,floor,none)", "[-13/2,*]/0 | [-6,6]/2 none"}, {"float(2,1,floor,sat)", "[-1/1000,1/1000]/0 | [-1/2,0]/2"}, {"float(24,6,zero,sat)", "[0,M-]/1 | [0,1073741760]/64"}, {"float(1,0,near,none)", "[-1,1]/1 | [-1,1]/1"},
		{"fix(1,2,near,sat)", "[] | []"}, {"fix(1,2,near,sat)", "[] none | [] none"}, {"fix(1,2,near,none)", "[] | []"}, {"fix(1,2,near,wrap)", "[] | []"}, {"float(2,1,near,none)", "[] none | [] none"},
	} {
		l := list(c.row)
		if got := span.Fit(format(c.format), l[0]); got != l[1] {
			t.Errorf("Fit(%s, %s): got %s", c.format, c.row, span.Text(got))
		}
	}
}

// toldFit is what the chapter tells of Fit.
func toldFit(f api.Format, v api.Span) api.Span {
	v = known(v)
	if v.Empty {
		return v
	}
	least, greatest := quant.Least(f), quant.Greatest(f)
	r := api.Span{Lo: quant.Fit(f, v.Lo), Hi: quant.Fit(f, v.Hi), Den: 1 << f.F, None: v.None}
	isBetween := func(end api.Q) bool {
		return end != none && rat(least).Cmp(rat(end)) <= 0 && rat(end).Cmp(rat(greatest)) <= 0
	}
	if f.Over == "wrap" && (!isBetween(v.Lo) || !isBetween(v.Hi)) {
		r.Lo, r.Hi = least, greatest
	}
	if r.Lo == none {
		r.Lo, r.None = least, r.None || f.Over == "none"
	}
	if r.Hi == none {
		r.Hi, r.None = greatest, r.None || f.Over == "none"
	}
	return r
}

// P3.3: Fit of many spans, in formats of each kind, Round and Over.
func TestFit(t *testing.T) {
	for _, f := range formats() {
		for _, v := range someSpans(900) {
			if got, want := span.Fit(f, v), toldFit(f, v); got != want {
				t.Errorf("Fit(%v, %v): got %v, want %v", f, v, got, want)
			}
		}
	}
}

// P3.3: Fit of a format that is not valid.
func TestFitOfNoFormat(t *testing.T) {
	for _, f := range noFormats() {
		for _, v := range append(append(validSpans()[:200], notValid()...), list("[0,1]/1 | [] | [] none | [*,*]/0 none")...) {
			if got := span.Fit(f, v); got != s("[] none") {
				t.Errorf("Fit(%v, %v): got %v", f, v, got)
			}
		}
	}
}

// P3.3: Text, written out.
func TestTextNamed(t *testing.T) {
	for _, c := range []struct {
		span api.Span
		want string
	}{
		{api.Span{Lo: q(0, 1), Hi: q(1, 1), Den: 1}, "[0,1]/1"}, {api.Span{Lo: q(-1, 2), Hi: q(3, 4), Den: 4}, "[-1/2,3/4]/4"}, {api.Span{Lo: q(0, 1), Hi: q(1, 1), Den: 1, None: true}, "[0,1]/1 none"},
		{api.Span{Lo: q(0, 1), Den: 1, None: true}, "[0,*]/1 none"}, {api.Span{Hi: q(-7, 1), Den: 0}, "[*,-7]/0"}, {api.Span{}, "[*,*]/0"}, {api.Span{None: true}, "[*,*]/0 none"}, {api.Span{Den: api.MaxNum}, "[*,*]/1073741824"},
		{api.Span{Empty: true}, "[]"}, {api.Span{Empty: true, None: true}, "[] none"}, {api.Span{Lo: q(-api.MaxNum, 1), Hi: q(1, api.MaxNum), Den: api.MaxNum}, "[-1073741824,1/1073741824]/1073741824"},
		{api.Span{Empty: true, Den: 1}, "[*,*]/0 none"}, {api.Span{Lo: q(1, 1), Hi: q(0, 1)}, "[*,*]/0 none"}, {api.Span{Lo: api.Q{N: 2, D: 4}}, "[*,*]/0 none"},
	} {
		if got := span.Text(c.span); got != c.want {
			t.Errorf("Text(%v): got %q, want %q", c.span, got, c.want)
		}
	}
}

// P3.3: Text of all spans tells them apart: read as the tests read it, it is the span.
func TestText(t *testing.T) {
	for _, v := range validSpans() {
		if got := s(span.Text(v)); got != v {
			t.Errorf("Text(%v): %s is %v", v, span.Text(v), got)
		}
	}
}
