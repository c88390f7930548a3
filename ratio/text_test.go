package ratio_test

import (
	"strings"
	"testing"

	"serinette/api"
	"serinette/ratio"
)

// P1.3: Text.
func TestText(t *testing.T) {
	for _, c := range []struct {
		of   api.Q
		want string
	}{
		{q(0, 1), "0"}, {q(7, 1), "7"}, {q(-7, 1), "-7"}, {q(1, 2), "1/2"}, {q(-1, 2), "-1/2"}, {q(-3, 6), "-1/2"}, {q(4, 2), "2"},
		{q(api.MaxNum, 1), "1073741824"}, {q(-api.MaxNum, 1), "-1073741824"}, {q(1, api.MaxNum), "1/1073741824"}, {q(-api.MaxNum, api.MaxNum-1), "-1073741824/1073741823"},
	} {
		if got := ratio.Text(c.of); got != c.want {
			t.Errorf("Text(%v): got %q, want %q", c.of, got, c.want)
		}
	}
	for _, v := range notNumbers() {
		if got := ratio.Text(v); got != "none" {
			t.Errorf("Text(%v): got %q, want none", v, got)
		}
	}
}

// P1.3: Parse of texts of numbers and of none.
func TestParse(t *testing.T) {
	for _, c := range []struct {
		text string
		want api.Q
	}{
		{"none", none}, {"0", q(0, 1)}, {"-0", q(0, 1)}, {"5", q(5, 1)}, {"-5", q(-5, 1)}, {"007", q(7, 1)}, {"0000000012", q(12, 1)}, {"0000000000", q(0, 1)},
		{"1/2", q(1, 2)}, {"2/4", q(1, 2)}, {"-2/4", q(-1, 2)}, {"0/7", q(0, 1)}, {"-0/7", q(0, 1)}, {"6/3", q(2, 1)}, {"1/0000000002", q(1, 2)},
		{"0.5", q(1, 2)}, {"-0.25", q(-1, 4)}, {"1.50", q(3, 2)}, {"12.0", q(12, 1)}, {"-0.0", q(0, 1)}, {"0.000000000", q(0, 1)}, {"0.000000001", q(1, 1000000000)}, {"1.000000000", q(1, 1)},
		{"0.123456789", q(123456789, 1000000000)}, {"0000000001.5", q(3, 2)}, {"1000000000.000000000", q(1000000000, 1)}, {"-3.0625", q(-49, 16)},
		{"1073741824", q(api.MaxNum, 1)}, {"-1073741824", q(-api.MaxNum, 1)}, {"1/1073741824", q(1, api.MaxNum)}, {"1073741824.0", q(api.MaxNum, 1)},
		{"2147483648/2", q(api.MaxNum, 1)}, {"2/2147483648", q(1, api.MaxNum)}, {"9999999999/9999999999", q(1, 1)}, {"9999999999/3333333333", q(3, 1)}, {"-3333333333/9999999999", q(-1, 3)},
	} {
		if got, err := ratio.Parse(c.text); got != c.want || err != api.OK {
			t.Errorf("Parse(%q): got %v %v, want %v", c.text, got, err, c.want)
		}
	}
}

// P1.3: texts that Parse refuses.
func TestParseRefuses(t *testing.T) {
	malformed := []string{
		"", " ", "-", "--1", "+1", "1-", "-+1", "a", "1a", "a1", "0x10", "1e3", "1_0", "1,5", " 1", "1 ", "1\n", "- 1", "1 /2", "1/ 2", "\x001", "1\x00",
		"None", "NONE", "none ", " none", "-none", "non", "nonee", "none/2", "1/none", "inf", "NaN", "nil",
		"/", "/2", "1/", "-/2", "1//2", "1/2/3", "1/-2", "1/+2", "-1/-2", "1/a", "1/2.5", "1.5/2", "1/.5", "1/2.",
		".", ".5", "-.5", "1.", "1..5", "1.2.3", "1.-5", "1.+5", "1.a", "1.5e1", "1. 5",
		"1/0", "0/0", "-1/0", "1/0000000000", "9999999999/0",
		"12345678901", "-12345678901", "00000000001", "1/12345678901", "1/00000000001", "00000000001/2", "1.0000000000", "0.1234567890", "00000000001.5",
		"99999999999999999999999999", "1/99999999999999999999999999", "18446744073709551617", strings.Repeat("1", 9000), "1." + strings.Repeat("0", 9000),
		"\u0661", "\uff11", "1\u0661", "\u22121", "1\u20442", "\xff", "1/\xb2",
	}
	for _, text := range malformed {
		if got, err := ratio.Parse(text); got != none || err != api.ErrForm {
			t.Errorf("Parse(%q): got %v %v, want ErrForm", text, got, err)
		}
	}
	beyond := []string{
		"1073741825", "-1073741825", "9999999999", "-9999999999", "1/1073741825", "-1/1073741825", "1/9999999999", "1073741825/2", "1073741824/1073741825", "9999999999/2",
		"1073741824.5", "1073741825.0", "1.123456789", "2.000000001", "536870912.5", "9999999999.999999999", "-9999999999.999999999", "9999999999.000000000", "1844674407.370955161", "9223372037.0",
	}
	for _, text := range beyond {
		if got, err := ratio.Parse(text); got != none || err != api.ErrLimit {
			t.Errorf("Parse(%q): got %v %v, want ErrLimit", text, got, err)
		}
	}
}

// P1.3: a bound of one step more or less in decimals.
func TestParseDecimalsAtTheBound(t *testing.T) {
	if got, err := ratio.Parse("536870911.5"); got != q(1073741823, 2) || err != api.OK {
		t.Errorf("got %v %v", got, err)
	}
	if got, err := ratio.Parse("-1.073741823"); got != q(-1073741823, 1000000000) || err != api.OK {
		t.Errorf("got %v %v", got, err)
	}
	if got, err := ratio.Parse("1.073741825"); got != q(42949673, 40000000) || err != api.OK {
		t.Errorf("got %v %v", got, err)
	}
	if got, err := ratio.Parse("1.073741827"); got != none || err != api.ErrLimit {
		t.Errorf("got %v %v", got, err)
	}
}

// P1.3: Parse of Text is q, or none of what counts as none.
func TestParseOfText(t *testing.T) {
	for _, v := range append(values(), numbers()...) {
		want := fromRat(toRat(v))
		if got, err := ratio.Parse(ratio.Text(v)); got != want || err != api.OK {
			t.Errorf("Parse(Text(%v)): got %v %v, want %v", v, got, err, want)
		}
	}
}
