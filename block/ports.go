package block

import (
	"slices"

	"serinette/api"
)

// ports are how many ins and outs there are.
type ports struct{ ins, outs int }

// Ports returns how many ins and outs b has.
func Ports(b api.Block) (ins, outs int, err api.Errno) {
	if !isValid(b) {
		return 0, 0, api.ErrArg
	}
	if Size(b) > api.MaxBlocks || Depth(b) > api.MaxNest {
		return 0, 0, api.ErrLimit
	}
	all, err := portsOf(b)
	if err != api.OK {
		return 0, 0, err
	}
	if !hasItsPaths(b) {
		return 0, 0, api.ErrTwice
	}
	return all.ins, all.outs, api.OK
}

// portsOf returns the ports of a valid block; its Kids are refused ahead of it, from the left.
func portsOf(b api.Block) (ports, api.Errno) {
	var kids []ports
	for _, kid := range b.Kids {
		p, err := portsOf(kid)
		if err != api.OK {
			return ports{}, err
		}
		kids = append(kids, p)
	}
	whole, ok := portsWith(b.Op, kids)
	if !ok {
		return ports{}, api.ErrPorts
	}
	if whole.ins > api.MaxPorts || whole.outs > api.MaxPorts {
		return ports{}, api.ErrLimit
	}
	return whole, api.OK
}

// portsWith returns the ports of an op's block by those of its Kids; false: these do not fit.
func portsWith(op string, kids []ports) (whole ports, ok bool) {
	switch len(kids) {
	case 2:
		return portsOfTwo(op, kids[0], kids[1])
	case 1:
		return portsOfOne(op, kids[0]), true
	}
	s, ok := shapeOf(op)
	return ports{s.ins, s.outs}, ok
}

// portsOfTwo returns the ports of a composition; false: it does not fit.
func portsOfTwo(op string, a, b ports) (whole ports, ok bool) {
	through := ports{a.ins, b.outs}
	switch op {
	case "par":
		return ports{a.ins + b.ins, a.outs + b.outs}, true
	case "seq":
		return through, a.outs == b.ins
	case "split":
		return through, isMultiple(b.ins, a.outs)
	case "merge":
		return through, isMultiple(a.outs, b.ins)
	}
	return ports{a.ins - b.outs, a.outs}, b.ins <= a.outs && b.outs <= a.ins
}

// isMultiple tells whether n is m, which is not 0, times 1 or more.
func isMultiple(n, m int) bool {
	return m > 0 && n > 0 && n%m == 0
}

// portsOfOne returns the ports of a block around one Kid.
func portsOfOne(op string, a ports) ports {
	if op == "gate" || op == "reset" {
		return ports{a.ins + 1, a.outs}
	}
	return a
}

// hasItsPaths tells whether all knobs of one path are alike, and each path of a show stands there alone.
func hasItsPaths(b api.Block) bool {
	controls := map[string][]api.Q{}
	for _, knob := range having("knob", b) {
		if nums, isThere := controls[knob.Name]; isThere && !slices.Equal(nums, knob.Nums) {
			return false
		}
		controls[knob.Name] = knob.Nums
	}
	shown := map[string]bool{}
	for _, show := range having("show", b) {
		if _, isThere := controls[show.Name]; isThere || shown[show.Name] {
			return false
		}
		shown[show.Name] = true
	}
	return true
}

// having returns the blocks of an op, in the order of places.
func having(op string, b api.Block) []api.Block {
	var l []api.Block
	if b.Op == op {
		l = append(l, b)
	}
	for _, kid := range b.Kids {
		l = append(l, having(op, kid)...)
	}
	return l
}

// Knobs returns the controls of b, each once, in the order of places.
func Knobs(b api.Block) ([]api.Knob, api.Errno) {
	if _, _, err := Ports(b); err != api.OK {
		return nil, err
	}
	var l []api.Knob
	listed := map[string]bool{}
	for _, knob := range having("knob", b) {
		if !listed[knob.Name] {
			listed[knob.Name] = true
			l = append(l, api.Knob{Path: knob.Name, Init: knob.Nums[0], Lo: knob.Nums[1], Hi: knob.Nums[2], Step: knob.Nums[3]})
		}
	}
	return l, api.OK
}

// Shows returns the paths of the shows of b, in the order of places.
func Shows(b api.Block) ([]string, api.Errno) {
	if _, _, err := Ports(b); err != api.OK {
		return nil, err
	}
	var l []string
	for _, show := range having("show", b) {
		l = append(l, show.Name)
	}
	return l, api.OK
}
