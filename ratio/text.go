package ratio

import (
	"strconv"
	"strings"

	"serinette/api"
)

// Text returns n, n/d or none.
func Text(q api.Q) string {
	if !Is(q) {
		return "none"
	}
	text := strconv.FormatInt(q.N, 10)
	if q.D == 1 {
		return text
	}
	return text + "/" + strconv.FormatInt(q.D, 10)
}

// Parse reads none, or a number as digits, perhaps with a denominator or decimals.
func Parse(s string) (api.Q, api.Errno) {
	if s == "none" {
		return api.Q{}, api.OK
	}
	unsigned, below := strings.CutPrefix(s, "-")
	n, d, ok := fraction(unsigned)
	if !ok {
		return api.Q{}, api.ErrForm
	}
	q := lowest(below, n, d)
	if !Is(q) {
		return api.Q{}, api.ErrLimit
	}
	return q, api.OK
}

// fraction reads a text without a sign: the numerator, and the denominator, which is not 0.
func fraction(s string) (n, d uint64, ok bool) {
	if above, under, found := strings.Cut(s, "/"); found {
		n, okAbove := digits(above, 10)
		d, okUnder := digits(under, 10)
		return n, d, okAbove && okUnder && d != 0
	}
	ahead, behind, found := strings.Cut(s, ".")
	n, ok = digits(ahead, 10)
	if !found || !ok {
		return n, 1, ok
	}
	decimals, ok := digits(behind, 9)
	if !ok {
		return 0, 0, false
	}
	d = 1
	for range behind {
		d *= 10
	}
	// 10 and 9 digits are less than 2^64.
	return n*d + decimals, d, true
}

// digits reads 1 to most digits.
func digits(s string, most int) (n uint64, ok bool) {
	if len(s) < 1 || len(s) > most {
		return 0, false
	}
	for _, c := range []byte(s) {
		if c < '0' || c > '9' {
			return 0, false
		}
		n = 10*n + uint64(c-'0')
	}
	return n, true
}
