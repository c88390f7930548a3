package define

import (
	"slices"

	"serinette/api"
	"serinette/block"
	"serinette/ops"
	"serinette/quant"
	"serinette/ratio"
)

// Number returns the number that b is.
func Number(b api.Block) (api.Q, bool) {
	if !isTimeless(b) {
		return api.Q{}, false
	}
	if ins, outs, err := block.Ports(b); err != api.OK || ins != 0 || outs != 1 {
		return api.Q{}, false
	}
	q := signalOf(b).of(nil)[0]
	return q, ratio.Is(q)
}

// isTimeless tells whether b has nothing but ops that a number may have.
func isTimeless(b api.Block) bool {
	switch b.Op {
	case "num", "wire", "cut", "fit", "par", "seq", "split", "merge",
		"neg", "abs", "floor", "round", "frac", "not",
		"add", "sub", "mul", "div", "mod", "min", "max", "lt", "le", "eq", "ne", "and", "or", "xor", "shl", "shr", "pick":
		return !slices.ContainsFunc(b.Kids, func(kid api.Block) bool { return !isTimeless(kid) })
	}
	return false
}

// signal is how many ins and outs a block has, and how it makes its outs of its ins.
type signal struct {
	ins, outs int
	of        func(ins []api.Q) []api.Q
}

// signalOf returns the signal of a block whose ports are OK.
func signalOf(b api.Block) signal {
	if len(b.Kids) == 2 {
		return joinedSignal(b.Op, signalOf(b.Kids[0]), signalOf(b.Kids[1]))
	}
	ins, outs, _ := block.Ports(b)
	return signal{ins, outs, func(ins []api.Q) []api.Q {
		if b.Op == "cut" {
			return nil
		}
		return []api.Q{outOf(b, ins)}
	}}
}

// joinedSignal returns the signal of a composition.
func joinedSignal(op string, a, b signal) signal {
	switch op {
	case "par":
		return signal{a.ins + b.ins, a.outs + b.outs, func(ins []api.Q) []api.Q {
			return slices.Concat(a.of(ins[:a.ins]), b.of(ins[a.ins:]))
		}}
	case "split":
		return signal{a.ins, b.outs, func(ins []api.Q) []api.Q {
			return b.of(slices.Repeat(a.of(ins), b.ins/a.outs))
		}}
	case "merge":
		return signal{a.ins, b.outs, func(ins []api.Q) []api.Q {
			return b.of(sums(a.of(ins), b.ins))
		}}
	}
	return signal{a.ins, b.outs, func(ins []api.Q) []api.Q { return b.of(a.of(ins)) }}
}

// sums returns n sums, each of what lies n apart.
func sums(l []api.Q, n int) []api.Q {
	apart := make([][]api.Q, n)
	for i, q := range l {
		apart[i%n] = append(apart[i%n], q)
	}
	var all []api.Q
	for _, terms := range apart {
		all = append(all, ratio.Sum(terms))
	}
	return all
}

// outOf returns the out of a block without Kids.
func outOf(b api.Block, ins []api.Q) api.Q {
	switch b.Op {
	case "num":
		return b.Nums[0]
	case "wire":
		return ins[0]
	case "fit":
		return quant.Fit(b.Format, ins[0])
	}
	return ops.Apply(b.Op, ins)
}
