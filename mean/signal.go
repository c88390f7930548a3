package mean

import "serinette/api"

// clock counts the samples that are run.
type clock struct{ samples int }

// once is for what is done but once in a sample, whoever asks for it first.
type once struct {
	clock *clock
	done  int // what the clock showed when it was done last
}

// begins tells whether it is still to be done in this sample; from then on it is done.
func (o *once) begins() bool {
	isDone := o.done == o.clock.samples
	o.done = o.clock.samples
	return !isDone
}

// player plays a block. At a sample all that run together hear, and only then go on: so each one takes what the others give at this sample, not at the next.
type player interface {
	give(out int) api.Q // what comes out at this sample; asked for until it has heard, at the latest
	hear()              // asks for all signals that goOn needs
	goOn()              // goes on to the next sample
	reset()             // goes back to the beginning
}

// still is within players that keep nothing from sample to sample.
type still struct{}

func (still) hear()  {}
func (still) goOn()  {}
func (still) reset() {}

// signal is what comes out of a player at one of its outs. When it was asked for, it stays until the next sample, even behind the player's goOn.
type signal struct {
	once once
	q    api.Q
	from player
	out  int
}

// now returns what the signal is at this sample.
func (s *signal) now() api.Q {
	if s.once.begins() {
		s.q = s.from.give(s.out)
	}
	return s.q
}

// valuesOf returns what signals are at this sample.
func valuesOf(l []*signal) []api.Q {
	values := make([]api.Q, len(l))
	for i, s := range l {
		values[i] = s.now()
	}
	return values
}

// part is what runs together: a whole diagram, or the Kid of up, down, gate or reset.
type part struct {
	outs    []*signal
	players []player // those that are not still
}

func (p *part) hear() {
	valuesOf(p.outs)
	for _, player := range p.players {
		player.hear()
	}
}

func (p *part) goOn() {
	for _, player := range p.players {
		player.goOn()
	}
}

func (p *part) reset() {
	for _, player := range p.players {
		player.reset()
	}
}

// run is a part with a clock of its own, and what comes into it.
type run struct {
	part
	clock *clock
	given []*given
}

// sample runs one sample, and returns what comes out.
func (r *run) sample(ins []api.Q) []api.Q {
	for i, in := range r.given {
		in.q = ins[i]
	}
	r.clock.samples++
	r.hear()
	outs := valuesOf(r.outs)
	r.goOn()
	return outs
}
