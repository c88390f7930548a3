package quant

import (
	"strconv"
	"strings"

	"serinette/api"
)

// Code returns the k of q, of one below 0 as much above the greatest k as there are ks.
func Code(f api.Format, q api.Q) (int, api.Errno) {
	if !isFix(f) {
		return 0, api.ErrArg
	}
	if !Is(f, q) {
		return 0, api.ErrNone
	}
	// The denominator of a value divides 2^F.
	k := q.N * (1 << f.F / q.D)
	if k < 0 {
		k += 2 * half(f)
	}
	return int(k), api.OK
}

// Value returns the value with this code.
func Value(f api.Format, code int) (api.Q, api.Errno) {
	if !isFix(f) {
		return api.Q{}, api.ErrArg
	}
	k := int64(code)
	if k < 0 || k >= 2*half(f) {
		return api.Q{}, api.ErrArg
	}
	if k >= half(f) {
		k -= 2 * half(f)
	}
	return steps(f, k), api.OK
}

// Text returns fix(I,F,ROUND,OVER) or float(I,F,ROUND,OVER).
func Text(f api.Format) string {
	if !Valid(f) {
		return ""
	}
	fields := []string{strconv.Itoa(f.I), strconv.Itoa(f.F), f.Round, f.Over}
	return f.Kind + "(" + strings.Join(fields, ",") + ")"
}

// Parse reads what Text writes.
func Parse(s string) (api.Format, api.Errno) {
	kind, behind, _ := strings.Cut(s, "(")
	fields := strings.SplitN(strings.TrimSuffix(behind, ")"), ",", 5)
	if len(fields) != 4 {
		return api.Format{}, api.ErrForm
	}
	i, errI := strconv.Atoi(fields[0])
	f, errF := strconv.Atoi(fields[1])
	if errI != nil || errF != nil {
		return api.Format{}, api.ErrForm
	}
	format := api.Format{Kind: kind, I: i, F: f, Round: fields[2], Over: fields[3]}
	// Signs, leading zeros and a missing bracket are read up to here, but never written.
	if !Valid(format) || Text(format) != s {
		return api.Format{}, api.ErrForm
	}
	return format, api.OK
}
