package define

import "serinette/api"

// isBare tells whether a name is that of a built-in without arguments.
func isBare(name string) bool {
	switch name {
	case "neg", "abs", "floor", "round", "frac", "not", "min", "max", "pick":
		return true
	}
	return false
}

// takes returns what arguments a built-in takes, a letter for each: n a whole number, q a number, p a text, l a list of numbers, e a block. It is empty of all else.
func takes(name string) string {
	switch name {
	case "delay":
		return "n"
	case "vary":
		return "nn"
	case "table", "store", "wave":
		return "l"
	case "knob":
		return "pqqqq"
	case "show":
		return "p"
	case "fix", "float":
		return "nnpp"
	case "up", "down":
		return "ne"
	case "gate", "reset":
		return "e"
	}
	return ""
}

// builtIn is the name of a built-in that takes arguments.
type builtIn string

// apply makes the block.
func (name builtIn) apply(_ *evaluation, args []value) (value, api.Errno) {
	sorts := takes(string(name))
	if len(args) != len(sorts) {
		return nil, api.ErrArg
	}
	var p parts
	for i, v := range args {
		if err := p.take(sorts[i], v); err != api.OK {
			return nil, err
		}
	}
	return asked(p.block(string(name)))
}

// parts is what the arguments of a built-in are, by their sorts.
type parts struct {
	ints  []int
	nums  []api.Q
	texts []string
	kids  []api.Block
}

// take takes an argument, which must be of a sort.
func (p *parts) take(sort byte, v value) api.Errno {
	switch sort {
	case 'n':
		n, ok := wholeOf(v)
		p.ints = append(p.ints, n)
		return unless(ok, api.ErrNumber)
	case 'q':
		q, ok := numberOf(v)
		p.nums = append(p.nums, q)
		return unless(ok, api.ErrNumber)
	case 'p':
		s, ok := v.(text)
		p.texts = append(p.texts, string(s))
		return unless(ok, api.ErrArg)
	case 'e':
		d, ok := v.(diagram)
		p.kids = append(p.kids, api.Block(d))
		return unless(ok, api.ErrArg)
	}
	return p.takeList(v)
}

// takeList takes a list of numbers.
func (p *parts) takeList(v value) api.Errno {
	l, ok := v.(list)
	if !ok {
		return api.ErrArg
	}
	for _, v := range l {
		if err := p.take('q', v); err != api.OK {
			return err
		}
	}
	return api.OK
}

// unless returns OK, if it is so, else an error.
func unless(ok bool, err api.Errno) api.Errno {
	if ok {
		return api.OK
	}
	return err
}

// block returns the block of a built-in with these parts.
func (p parts) block(name string) api.Block {
	b := api.Block{Op: name, Nums: p.nums, Kids: p.kids}
	switch name {
	case "delay", "up", "down":
		b.N = p.ints[0]
	case "vary":
		b.N, b.M = p.ints[0], p.ints[1]
	case "knob", "show":
		b.Name = p.texts[0]
	case "fix", "float":
		b.Op = "fit"
		b.Format = api.Format{Kind: name, I: p.ints[0], F: p.ints[1], Round: p.texts[0], Over: p.texts[1]}
	}
	return b
}
