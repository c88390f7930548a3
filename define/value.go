package define

import (
	"slices"

	"serinette/api"
	"serinette/block"
)

// value is what a term evaluates to: a diagram, a function, a text, a list or an environment; ahead of arguments also a built-in.
type value interface {
	// apply returns what a call of this with arguments gives.
	apply(e *evaluation, args []value) (value, api.Errno)
}

// diagram is a block whose ports have been asked for.
type diagram api.Block

// apply puts the arguments ahead of the block, and wires for the ins that are missing.
func (d diagram) apply(_ *evaluation, args []value) (value, api.Errno) {
	row, err := blocksOf(args)
	if err != api.OK {
		return nil, err
	}
	ins, _, _ := portsOf(api.Block(d))
	missing := ins
	for _, b := range row {
		_, outs, _ := portsOf(b)
		missing -= outs
	}
	if missing < 0 {
		return nil, api.ErrPorts
	}
	row = append(row, slices.Repeat([]api.Block{block.Leaf("wire")}, missing)...)
	return asked(joined("seq", joined("par", row...), api.Block(d)))
}

// function is rules, of which the first one that fits is taken. A fun is one rule.
type function struct {
	rules []api.Def
	home  *scope // what is seen where it stands
}

// functionOf returns the function of a fun.
func functionOf(names []string, body api.Term, home *scope) function {
	var args []api.Term
	for _, name := range names {
		args = append(args, api.Term{Op: "name", Text: name})
	}
	return function{[]api.Def{{Args: args, Body: body}}, home}
}

// apply evaluates the body of the first rule that fits.
func (f function) apply(e *evaluation, args []value) (value, api.Errno) {
	if len(args) != len(f.rules[0].Args) {
		return nil, api.ErrArg
	}
	numbers := f.numbersAmong(args)
	for _, rule := range f.rules {
		if fits(rule.Args, numbers) {
			return e.eval(rule.Body, f.home.within(boundTo(rule.Args, args)))
		}
	}
	return nil, api.ErrMatch
}

// numbersAmong returns the numbers that arguments are, as far as a pattern asks for them; none for all else.
func (f function) numbersAmong(args []value) []api.Q {
	numbers := make([]api.Q, len(args))
	for i, v := range args {
		if slices.ContainsFunc(f.rules, func(rule api.Def) bool { return rule.Args[i].Op == "num" }) {
			numbers[i], _ = numberOf(v)
		}
	}
	return numbers
}

// fits tells whether the patterns that are numbers are those of the arguments.
func fits(patterns []api.Term, numbers []api.Q) bool {
	for i, pattern := range patterns {
		if pattern.Op == "num" && pattern.Num != numbers[i] {
			return false
		}
	}
	return true
}

// boundTo returns the names among the patterns, bound to the arguments.
func boundTo(patterns []api.Term, args []value) map[string]binding {
	bound := map[string]binding{}
	for i, pattern := range patterns {
		if pattern.Op == "name" {
			bound[pattern.Text] = given{args[i]}
		}
	}
	return bound
}

// text is a text.
type text string

func (text) apply(*evaluation, []value) (value, api.Errno) {
	return nil, api.ErrArg
}

// list is a list of values.
type list []value

func (list) apply(*evaluation, []value) (value, api.Errno) {
	return nil, api.ErrArg
}

// environment is definitions that are seen behind a dot.
type environment struct{ place *scope }

// environmentOf returns the environment of these definitions.
func environmentOf(defs []api.Def, around *scope) (value, api.Errno) {
	place, err := entered(defs, around)
	if err != api.OK {
		return nil, err
	}
	return environment{place}, api.OK
}

func (environment) apply(*evaluation, []value) (value, api.Errno) {
	return nil, api.ErrArg
}

// blocksOf returns the blocks that values are.
func blocksOf(l []value) ([]api.Block, api.Errno) {
	var blocks []api.Block
	for _, v := range l {
		d, ok := v.(diagram)
		if !ok {
			return nil, api.ErrArg
		}
		blocks = append(blocks, api.Block(d))
	}
	return blocks, api.OK
}

// numberOf returns the number that a value is.
func numberOf(v value) (api.Q, bool) {
	d, ok := v.(diagram)
	if !ok {
		return api.Q{}, false
	}
	return Number(api.Block(d))
}

// wholeOf returns the whole number that a value is.
func wholeOf(v value) (int, bool) {
	q, ok := numberOf(v)
	return int(q.N), ok && q.D == 1
}
