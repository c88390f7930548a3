package kind

import (
	"slices"

	"serinette/api"
	"serinette/span"
)

// The rates, from the least on.
const (
	constant = "const"
	control  = "control"
	sample   = "sample"
)

// greater returns the greater one of two rates.
func greater(a, b string) string {
	switch {
	case a == sample || b == sample:
		return sample
	case a == control || b == control:
		return control
	}
	return constant
}

// greatest returns the greatest rate of signals; of none the least one.
func greatest(l []api.Kind) string {
	rate := constant
	for _, k := range l {
		rate = greater(rate, k.Rate)
	}
	return rate
}

// sampled returns kinds with the greatest rate in the place of theirs.
func sampled(l []api.Kind) []api.Kind {
	r := slices.Clone(l)
	for i := range r {
		r[i].Rate = sample
	}
	return r
}

// counted returns kinds as what they count as. What is behind it takes spans that are valid, and rates that there are.
func counted(l []api.Kind) []api.Kind {
	r := slices.Clone(l)
	for i, k := range r {
		if !span.Valid(k.Span) {
			r[i].Span = span.All()
		}
		if k.Rate != constant && k.Rate != control {
			r[i].Rate = sample
		}
	}
	return r
}
