package mean

import (
	"slices"

	"serinette/api"
	"serinette/ratio"
)

// whole returns a whole number.
func whole(n int) api.Q { return api.Q{N: int64(n), D: 1} }

// zeros returns n times 0.
func zeros(n int) []api.Q { return slices.Repeat([]api.Q{whole(0)}, n) }

// past is what came last, so many numbers of it; 0 ahead of the first.
type past struct {
	nums []api.Q // a ring
	next int     // where the next one is put, in the place of the oldest
	came int     // how many came, as far as they are kept
}

func newPast(n int) past { return past{nums: make([]api.Q, n)} }

// ago returns what came n ago, 1 being the latest.
func (p *past) ago(n int) api.Q {
	if n > p.came {
		return whole(0)
	}
	return p.nums[(p.next+len(p.nums)-n)%len(p.nums)]
}

func (p *past) put(q api.Q) {
	p.nums[p.next] = q
	p.next = (p.next + 1) % len(p.nums)
	p.came = min(p.came+1, len(p.nums))
}

func (p *past) reset() { p.came = 0 }

// vals returns all, the latest first.
func (p *past) vals() []api.Q {
	l := make([]api.Q, len(p.nums))
	for i := range l {
		l[i] = p.ago(i + 1)
	}
	return l
}

func (p *past) load(vals []api.Q) {
	for _, q := range slices.Backward(vals) {
		p.put(q)
	}
}

// delay gives what came in as many samples ago as it keeps.
type delay struct {
	past
	in *signal
}

func (d *delay) give(int) api.Q { return d.ago(len(d.nums)) }
func (d *delay) hear()          { d.in.now() }
func (d *delay) goOn()          { d.put(d.in.now()) }

// vary gives what came in as many samples ago as another in tells, within what it keeps.
type vary struct {
	past
	in, far *signal
	least   int
}

func (v *vary) give(int) api.Q {
	far := v.far.now()
	if n := within(far, v.least, len(v.nums)); n > 0 {
		return unlessNone(far, v.ago(n))
	}
	return unlessNone(far, v.in.now())
}

func (v *vary) hear() { v.in.now() }
func (v *vary) goOn() { v.put(v.in.now()) }

// wave gives its numbers in turn, again and again.
type wave struct {
	nums []api.Q
	next int
}

func (w *wave) give(int) api.Q    { return w.nums[w.next] }
func (w *wave) hear()             {}
func (w *wave) goOn()             { w.next = (w.next + 1) % len(w.nums) }
func (w *wave) reset()            { w.next = 0 }
func (w *wave) vals() []api.Q     { return []api.Q{whole(w.next)} }
func (w *wave) load(vals []api.Q) { w.next = int(vals[0].N) }

// store gives what stands at one place; then something is put at another.
type store struct {
	first, nums      []api.Q
	write, put, read *signal
}

func (s *store) give(int) api.Q { return lookUp(s.nums, s.read.now()) }

func (s *store) hear() {
	s.write.now()
	s.put.now()
}

func (s *store) goOn() {
	place := ratio.Floor(s.write.now())
	if ratio.Is(place) && 0 <= place.N && place.N < int64(len(s.nums)) {
		s.nums[place.N] = s.put.now()
	}
}

func (s *store) reset()            { copy(s.nums, s.first) }
func (s *store) vals() []api.Q     { return slices.Clone(s.nums) }
func (s *store) load(vals []api.Q) { s.nums = vals }
