package span

import (
	"serinette/api"
	"serinette/quant"
)

// Fit returns a span of the values to which the numbers of s come.
func Fit(f api.Format, s api.Span) api.Span {
	if !quant.Valid(f) {
		return nothing(true)
	}
	s = known(s)
	if s.Empty {
		return s
	}
	lo, hi := quant.Fit(f, s.Lo), quant.Fit(f, s.Hi)
	r := Make(quant.Least(f), quant.Greatest(f), quant.Step(f).D)
	r.None = s.None || f.Over == "none" && (isOpen(lo) || isOpen(hi))
	// Beyond the ends the values go around, so that the fitted ends tell nothing of those between.
	if f.Over == "wrap" && !isAmong(s.Lo, s.Hi, r) {
		return r
	}
	// What is open, or with Over none beyond, is fitted to none, and the end is that of all values.
	if !isOpen(lo) {
		r.Lo = lo
	}
	if !isOpen(hi) {
		r.Hi = hi
	}
	return r
}
