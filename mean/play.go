package mean

import (
	"cmp"
	"maps"
	"slices"

	"serinette/api"
)

// Play runs n samples of b: what comes out, a list for each out, and what the shows told.
func Play(b api.Block, ins [][]api.Q, events []api.Event, n int) (outs [][]api.Q, told []api.Told, err api.Errno) {
	p, err := New(b)
	if err != api.OK {
		return nil, nil, err
	}
	if n < 0 || n > api.MaxTime || len(ins) != len(p.diagram.given) {
		return nil, nil, api.ErrArg
	}
	outs = make([][]api.Q, len(p.diagram.outs))
	paths := slices.Sorted(maps.Keys(p.diagram.shows))
	left := inTime(events)
	for t := range n {
		for len(left) > 0 && left[0].At <= t {
			p.Set(left[0].Path, left[0].Value)
			left = left[1:]
		}
		values, _ := p.Step(sampleOf(ins, t))
		for i, q := range values {
			outs[i] = append(outs[i], q)
		}
		told = append(told, p.toldNow(paths, t)...)
	}
	return outs, told, api.OK
}

// inTime returns events in the order in which they are set.
func inTime(events []api.Event) []api.Event {
	l := slices.Clone(events)
	// Those below 0 are set at 0, and not ahead of the others there.
	slices.SortStableFunc(l, func(a, b api.Event) int { return cmp.Compare(max(a.At, 0), max(b.At, 0)) })
	return l
}

// sampleOf returns what comes in at sample t.
func sampleOf(ins [][]api.Q, t int) []api.Q {
	values := zeros(len(ins))
	for i, in := range ins {
		if t < len(in) {
			values[i] = in[t]
		}
	}
	return values
}

// toldNow returns what the shows of these paths told in the last sample, which was t.
func (p *Player) toldNow(paths []string, t int) []api.Told {
	var l []api.Told
	for _, path := range paths {
		if s := p.diagram.shows[path]; s.isNew {
			l = append(l, api.Told{At: t, Path: path, Value: s.told})
		}
	}
	return l
}
