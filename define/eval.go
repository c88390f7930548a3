package define

import (
	"serinette/api"
	"serinette/block"
)

const (
	maxDepth = 200 // evaluations within one another
	maxTurns = 64  // how often an iter's body is evaluated
)

// evaluation is what is kept while a term is evaluated.
type evaluation struct {
	steps, depth int

	isRefused bool
	where     string // the definition in which the error lies
}

// eval evaluates a valid term.
func (e *evaluation) eval(t api.Term, s *scope) (value, api.Errno) {
	return e.step(s, func() (value, api.Errno) { return e.valueOf(t, s) })
}

// evalCalled evaluates what stands ahead of arguments, which may be a built-in that takes some.
func (e *evaluation) evalCalled(t api.Term, s *scope) (value, api.Errno) {
	return e.step(s, func() (value, api.Errno) {
		if _, isBound := s.find(t.Text); t.Op == "name" && !isBound && takes(t.Text) != "" {
			return builtIn(t.Text), api.OK
		}
		return e.valueOf(t, s)
	})
}

// step does an evaluation, unless that is one too many. The innermost one that is refused tells where.
func (e *evaluation) step(s *scope, do func() (value, api.Errno)) (v value, err api.Errno) {
	e.steps++
	e.depth++
	if e.steps > api.MaxSteps || e.depth > maxDepth {
		err = api.ErrLimit
	} else {
		v, err = do()
	}
	e.depth--
	if err != api.OK && !e.isRefused {
		e.isRefused, e.where = true, s.where
	}
	return v, err
}

// valueOf returns what a term is, by its op.
func (e *evaluation) valueOf(t api.Term, s *scope) (value, api.Errno) {
	switch t.Op {
	case "num":
		return diagram(block.Num(t.Num)), api.OK
	case "wire", "cut":
		return diagram(block.Leaf(t.Op)), api.OK
	case "op":
		return diagram(block.Leaf(t.Text)), api.OK
	case "text":
		return text(t.Text), api.OK
	case "list":
		l, err := e.all(t.Kids, s)
		return list(l), err
	case "env":
		return environmentOf(t.Defs, s)
	case "fun":
		return functionOf(t.Names, t.Kids[0], s), api.OK
	case "case":
		return function{t.Defs, s}, api.OK
	case "with":
		return e.with(t, s)
	case "name":
		return e.name(t.Text, s)
	case "dot":
		return e.dot(t, s)
	case "iter":
		return e.iter(t, s)
	case "call":
		return e.call(t, s)
	}
	return e.composed(t, s)
}

// all evaluates terms from the left.
func (e *evaluation) all(l []api.Term, s *scope) ([]value, api.Errno) {
	var values []value
	for _, t := range l {
		v, err := e.eval(t, s)
		if err != api.OK {
			return nil, err
		}
		values = append(values, v)
	}
	return values, api.OK
}

// composed evaluates par, seq, split, merge or rec.
func (e *evaluation) composed(t api.Term, s *scope) (value, api.Errno) {
	kids, err := e.all(t.Kids, s)
	if err != api.OK {
		return nil, err
	}
	blocks, err := blocksOf(kids)
	if err != api.OK {
		return nil, err
	}
	return asked(joined(t.Op, blocks...))
}

// with evaluates a term where its definitions are seen.
func (e *evaluation) with(t api.Term, s *scope) (value, api.Errno) {
	place, err := entered(t.Defs, s)
	if err != api.OK {
		return nil, err
	}
	return e.eval(t.Kids[0], place)
}

// name evaluates a name that stands alone.
func (e *evaluation) name(name string, s *scope) (value, api.Errno) {
	if b, ok := s.find(name); ok {
		return b.get(e)
	}
	switch {
	case isBare(name):
		return diagram(block.Leaf(name)), api.OK
	case takes(name) != "":
		return nil, api.ErrArg
	}
	return nil, api.ErrName
}

// dot evaluates a name of an environment.
func (e *evaluation) dot(t api.Term, s *scope) (value, api.Errno) {
	v, err := e.eval(t.Kids[0], s)
	if err != api.OK {
		return nil, err
	}
	env, ok := v.(environment)
	if !ok {
		return nil, api.ErrArg
	}
	b, ok := env.place.bound[t.Text]
	if !ok {
		return nil, api.ErrName
	}
	return b.get(e)
}

// call evaluates what is called and the arguments, and applies it to them.
func (e *evaluation) call(t api.Term, s *scope) (value, api.Errno) {
	called, err := e.evalCalled(t.Kids[0], s)
	if err != api.OK {
		return nil, err
	}
	args, err := e.all(t.Kids[1:], s)
	if err != api.OK {
		return nil, err
	}
	return called.apply(e, args)
}

// iter evaluates a body again and again, and joins what it gives.
func (e *evaluation) iter(t api.Term, s *scope) (value, api.Errno) {
	often, err := e.eval(t.Kids[0], s)
	if err != api.OK {
		return nil, err
	}
	n, ok := wholeOf(often)
	if !ok || n < 1 || n > maxTurns {
		return nil, api.ErrNumber
	}
	var turns []api.Block
	for i := range n {
		v, err := e.turn(t, s, i)
		if err != api.OK {
			return nil, err
		}
		turns = append(turns, v)
	}
	if t.Text == "sum" {
		return sum(turns)
	}
	return asked(joined(t.Text, turns...))
}

// turn evaluates the body of an iter with its name bound to a number.
func (e *evaluation) turn(t api.Term, s *scope, i int) (api.Block, api.Errno) {
	number := diagram(block.Num(api.Q{N: int64(i), D: 1}))
	v, err := e.eval(t.Kids[1], s.within(map[string]binding{t.Names[0]: given{number}}))
	if err != api.OK {
		return api.Block{}, err
	}
	d, ok := v.(diagram)
	if !ok {
		return api.Block{}, api.ErrArg
	}
	return api.Block(d), api.OK
}

// sum joins blocks of one out each to one that gives their sum.
func sum(l []api.Block) (value, api.Errno) {
	for _, b := range l {
		if _, outs, _ := portsOf(b); outs != 1 {
			return nil, api.ErrPorts
		}
	}
	if len(l) == 1 {
		return diagram(l[0]), api.OK
	}
	return asked(joined("merge", joined("par", l...), block.Leaf("wire")))
}
