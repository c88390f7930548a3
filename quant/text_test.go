package quant_test

import (
	"math"
	"strconv"
	"strings"
	"testing"

	"serinette/api"
	"serinette/quant"
)

// P2.2: Code and Value, written out.
func TestCodeNamed(t *testing.T) {
	const m = api.MaxNum
	for _, c := range []struct {
		f    api.Format
		v    api.Q
		code int
	}{
		{fix(1, 2, "near", "sat"), q(-1, 4), 15}, {fix(1, 2, "floor", "wrap"), q(-1, 4), 15}, {fix(1, 2, "zero", "none"), q(-2, 1), 8}, {fix(1, 2, "near", "sat"), q(0, 1), 0}, {fix(1, 2, "near", "sat"), q(1, 4), 1}, {fix(1, 2, "near", "sat"), q(3, 2), 6}, {fix(1, 2, "near", "sat"), q(7, 4), 7}, {fix(1, 2, "near", "sat"), q(-7, 4), 9},
		{fix(0, 0, "near", "sat"), q(0, 1), 0}, {fix(0, 0, "near", "sat"), q(-1, 1), 1},
		{fix(30, 0, "near", "sat"), q(m-1, 1), m - 1}, {fix(30, 0, "near", "sat"), q(-m, 1), m}, {fix(30, 0, "near", "sat"), q(-1, 1), 2*m - 1},
		{fix(0, 30, "near", "sat"), q(m-1, m), m - 1}, {fix(0, 30, "near", "sat"), q(-1, 1), m}, {fix(0, 30, "near", "sat"), q(-1, m), 2*m - 1}, {fix(0, 30, "near", "sat"), q(1, 2), m / 2},
		{fix(15, 15, "near", "sat"), q(-1, 1), 2*m - 32768},
	} {
		if got, err := quant.Code(c.f, c.v); got != c.code || err != api.OK {
			t.Errorf("Code(%v, %v): got %d %v, want %d", c.f, c.v, got, err, c.code)
		}
		if got, err := quant.Value(c.f, c.code); got != c.v || err != api.OK {
			t.Errorf("Value(%v, %d): got %v %v, want %v", c.f, c.code, got, err, c.v)
		}
	}
}

// P2.2: Code of what is no value.
func TestCodeOfNoValue(t *testing.T) {
	const m = api.MaxNum
	for _, f := range someFormats() {
		if f.Kind == "float" {
			continue
		}
		l := append(notNumbers(), q(m, 1), q(1, 3), q(-1, m-1), q(m-1, m-2))
		end := times(rat(q(1, 1)), f.I)
		l = append(l, fromRat(end), fromRat(times(end.Neg(end), 1)))
		if f.F < 30 {
			l = append(l, q(1, 2<<f.F), q(-1, 2<<f.F))
		}
		for _, v := range l {
			if got, err := quant.Code(f, v); got != 0 || err != api.ErrNone {
				t.Errorf("Code(%v, %v): got %d %v, want ErrNone", f, v, got, err)
			}
		}
	}
}

// P2.2: a code that is out of range.
func TestValueOutOfRange(t *testing.T) {
	for _, f := range someFormats() {
		if f.Kind == "float" {
			continue
		}
		all := 2 << (f.I + f.F)
		for _, code := range []int{-1, -2, -all, all, all + 1, 2 * all, 1 << 31, 1 << 32, 1<<32 + 1, math.MaxInt, math.MinInt} {
			if got, err := quant.Value(f, code); got != none || err != api.ErrArg {
				t.Errorf("Value(%v, %d): got %v %v, want ErrArg", f, code, got, err)
			}
		}
		if got, err := quant.Value(f, all-1); got != fromRat(times(rat(q(-1, 1)), -f.F)) || err != api.OK {
			t.Errorf("Value(%v, %d): got %v %v", f, all-1, got, err)
		}
	}
}

// P2.2: a float has no codes.
func TestCodesOfFloat(t *testing.T) {
	for _, f := range someFormats() {
		if f.Kind == "fix" {
			continue
		}
		for _, v := range []api.Q{q(0, 1), q(1, 1), q(1, 3), none} {
			if got, err := quant.Code(f, v); got != 0 || err != api.ErrArg {
				t.Errorf("Code(%v, %v): got %d %v, want ErrArg", f, v, got, err)
			}
		}
		for _, code := range []int{0, 1, -1} {
			if got, err := quant.Value(f, code); got != none || err != api.ErrArg {
				t.Errorf("Value(%v, %d): got %v %v, want ErrArg", f, code, got, err)
			}
		}
	}
}

// P2.2: Text and Parse, written out.
func TestTextNamed(t *testing.T) {
	for _, c := range []struct {
		f    api.Format
		text string
	}{
		{fix(1, 2, "near", "sat"), "fix(1,2,near,sat)"}, {fix(0, 0, "floor", "wrap"), "fix(0,0,floor,wrap)"}, {fix(30, 0, "zero", "none"), "fix(30,0,zero,none)"}, {fix(0, 30, "near", "wrap"), "fix(0,30,near,wrap)"}, {fix(10, 20, "zero", "wrap"), "fix(10,20,zero,wrap)"},
		{float(2, 1, "near", "sat"), "float(2,1,near,sat)"}, {float(24, 6, "floor", "none"), "float(24,6,floor,none)"}, {float(10, 20, "zero", "sat"), "float(10,20,zero,sat)"}, {float(1, 0, "near", "none"), "float(1,0,near,none)"},
	} {
		if got := quant.Text(c.f); got != c.text {
			t.Errorf("Text(%v): got %q", c.f, got)
		}
		if got, err := quant.Parse(c.text); got != c.f || err != api.OK {
			t.Errorf("Parse(%q): got %v %v", c.text, got, err)
		}
	}
}

// P2.2: Parse of Text is the format; no two formats have one text.
func TestTextOfAll(t *testing.T) {
	seen := map[string]bool{}
	for _, f := range allFormats() {
		text := quant.Text(f)
		want := f.Kind + "(" + strconv.Itoa(f.I) + "," + strconv.Itoa(f.F) + "," + f.Round + "," + f.Over + ")"
		if text != want || seen[text] {
			t.Errorf("Text(%v): got %q", f, text)
		}
		seen[text] = true
		if got, err := quant.Parse(text); got != f || err != api.OK {
			t.Errorf("Parse(%q): got %v %v", text, got, err)
		}
	}
}

// P2.2: all else is refused, also what would be no valid format.
func TestParseRefuses(t *testing.T) {
	for _, text := range []string{
		"", " ", "fix", "float", "fix(", "fix)", "fix()", "()", "(", ")", ",,,", "(,,,)", "fix(,,,)", "fix(1,2,,)", "fix(1,2,near,)", "fix(1,2,,sat)", "(1,2,near,sat)",
		"fix(1,2)", "fix(1,2,near)", "fix(1,2,near,sat", "fix 1,2,near,sat)", "fix1,2,near,sat)", "fix(1,2,near,sat))", "fix((1,2,near,sat)", "fix(1,2,near,sat),", "fix(1,2,near,sat,)", "fix(1,2,near,sat)x", "fix(1,2,near,sat,none)", "fix(1,2,near,sat)fix(1,2,near,sat)", "xfix(1,2,near,sat)", "fix(1,2,near,sat)()",
		" fix(1,2,near,sat)", "fix(1,2,near,sat) ", "fix (1,2,near,sat)", "fix( 1,2,near,sat)", "fix(1, 2,near,sat)", "fix(1,2 ,near,sat)", "fix(1,2, near,sat)", "fix(1,2,near, sat)", "fix(1,2,near,sat )", "fix(1,2,near,sat)\n", "fix(1,2,near,sat)\x00", "fix(1\t,2,near,sat)",
		"fix(01,2,near,sat)", "fix(1,02,near,sat)", "fix(+1,2,near,sat)", "fix(1,+2,near,sat)", "fix(-0,2,near,sat)", "fix(1,-0,near,sat)", "fix(00,0,near,sat)", "fix(1_0,2,near,sat)", "fix(0x1,2,near,sat)", "fix(1.0,2,near,sat)", "fix(1e0,2,near,sat)", "fix(1/1,2,near,sat)", "fix(\u0661,2,near,sat)", "fix(\uff11,2,near,sat)", "fix(a,2,near,sat)", "fix(1,b,near,sat)",
		"fix(2,near,sat,1)", "fix(1,2,sat,near)", "fix(near,sat,1,2)", "fix(1;2;near;sat)", "fix[1,2,near,sat]", "fix<1,2,near,sat>", "fix{1,2,near,sat}",
		"Fix(1,2,near,sat)", "FIX(1,2,near,sat)", "fix(1,2,Near,sat)", "fix(1,2,near,SAT)", "fix(1,2,up,sat)", "fix(1,2,near,clip)", "fix(1,2,none,sat)", "int(1,2,near,sat)", "floats(2,1,near,sat)", "flo at(2,1,near,sat)",
		"fix(-1,2,near,sat)", "fix(1,-1,near,sat)", "fix(31,0,near,sat)", "fix(0,31,near,sat)", "fix(30,1,near,sat)", "fix(1,30,near,sat)", "fix(16,15,near,sat)", "fix(1000000000,0,near,sat)",
		"fix(18446744073709551617,2,near,sat)", "fix(4294967297,2,near,sat)", "fix(1,99999999999999999999,near,sat)", "fix(9223372036854775807,1,near,sat)", "fix(9223372036854775807,9223372036854775807,near,sat)",
		"float(0,1,near,sat)", "float(25,0,near,sat)", "float(1,21,near,sat)", "float(24,7,near,sat)", "float(11,20,near,sat)", "float(-1,1,near,sat)", "float(2,-1,near,sat)", "float(2,1,near,wrap)", "float(2,1,floor,wrap)", "float(2,1,zero,wrap)", "float(2,1,up,sat)", "float(02,1,near,sat)",
		"none", "1/2", "fix(1,2,near,sat\xff)", "\xfffix(1,2,near,sat)", strings.Repeat("fix(1,2,near,sat)", 900), strings.Repeat(",", 9000), strings.Repeat("(", 9000), "fix(" + strings.Repeat("1", 9000) + ",2,near,sat)", "fix(" + strings.Repeat("0", 9000) + "1,2,near,sat)",
	} {
		if got, err := quant.Parse(text); got != (api.Format{}) || err != api.ErrForm {
			t.Errorf("Parse(%q): got %v %v, want ErrForm", text, got, err)
		}
	}
}

// P2.2: of the texts that differ from a format's by a byte, just those are read that are the text of a format.
func TestParseOfChangedTexts(t *testing.T) {
	texts := map[string]bool{}
	for _, f := range allFormats() {
		texts[quant.Text(f)] = true
	}
	for _, text := range []string{"fix(1,2,near,sat)", "fix(10,20,zero,wrap)", "float(2,1,near,sat)", "float(10,20,floor,none)"} {
		for at := range len(text) {
			changed := []string{text[:at] + text[at+1:]}
			for c := range 256 {
				b := string([]byte{byte(c)})
				changed = append(changed, text[:at]+b+text[at+1:], text[:at]+b+text[at:])
			}
			for _, s := range changed {
				_, err := quant.Parse(s)
				if texts[s] != (err == api.OK) || !texts[s] && err != api.ErrForm {
					t.Errorf("Parse(%q): got %v", s, err)
				}
			}
		}
	}
}
