package define

import (
	"slices"

	"serinette/api"
	"serinette/block"
	"serinette/quant"
	"serinette/ratio"
)

// Number returns the number that b is.
func Number(b api.Block) (api.Q, bool) {
	if !isTimeless(b) {
		return api.Q{}, false
	}
	if ins, outs, err := block.Ports(b); err != api.OK || ins != 0 || outs != 1 {
		return api.Q{}, false
	}
	q := signalOf(b).of(nil)[0]
	return q, ratio.Is(q)
}

// isTimeless tells whether b has nothing but ops that a number may have.
func isTimeless(b api.Block) bool {
	switch b.Op {
	case "num", "wire", "cut", "fit", "par", "seq", "split", "merge",
		"neg", "abs", "floor", "round", "frac", "not",
		"add", "sub", "mul", "div", "mod", "min", "max", "lt", "le", "eq", "ne", "and", "or", "xor", "shl", "shr", "pick":
		return !slices.ContainsFunc(b.Kids, func(kid api.Block) bool { return !isTimeless(kid) })
	}
	return false
}

// signal is how many ins and outs a block has, and how it makes its outs of its ins.
type signal struct {
	ins, outs int
	of        func(ins []api.Q) []api.Q
}

// signalOf returns the signal of a block whose ports are OK.
func signalOf(b api.Block) signal {
	if len(b.Kids) == 2 {
		return joinedSignal(b.Op, signalOf(b.Kids[0]), signalOf(b.Kids[1]))
	}
	ins, outs, _ := block.Ports(b)
	return signal{ins, outs, func(ins []api.Q) []api.Q {
		if b.Op == "cut" {
			return nil
		}
		return []api.Q{outOf(b, ins)}
	}}
}

// joinedSignal returns the signal of a composition.
func joinedSignal(op string, a, b signal) signal {
	switch op {
	case "par":
		return signal{a.ins + b.ins, a.outs + b.outs, func(ins []api.Q) []api.Q {
			return slices.Concat(a.of(ins[:a.ins]), b.of(ins[a.ins:]))
		}}
	case "split":
		return signal{a.ins, b.outs, func(ins []api.Q) []api.Q {
			return b.of(slices.Repeat(a.of(ins), b.ins/a.outs))
		}}
	case "merge":
		return signal{a.ins, b.outs, func(ins []api.Q) []api.Q {
			return b.of(sums(a.of(ins), b.ins))
		}}
	}
	return signal{a.ins, b.outs, func(ins []api.Q) []api.Q { return b.of(a.of(ins)) }}
}

// sums returns n sums, each of what lies n apart.
func sums(l []api.Q, n int) []api.Q {
	apart := make([][]api.Q, n)
	for i, q := range l {
		apart[i%n] = append(apart[i%n], q)
	}
	var all []api.Q
	for _, terms := range apart {
		all = append(all, ratio.Sum(terms))
	}
	return all
}

// outOf returns the out of a block without Kids.
func outOf(b api.Block, ins []api.Q) api.Q {
	switch len(ins) {
	case 0:
		return b.Nums[0]
	case 1:
		return ofOne(b, ins[0])
	case 2:
		return ofTwo(b.Op, ins[0], ins[1])
	}
	return picked(ins[0], ins[1], ins[2])
}

// ofOne returns the out of a block with one in.
func ofOne(b api.Block, q api.Q) api.Q {
	switch b.Op {
	case "neg":
		return ratio.Neg(q)
	case "abs":
		return ratio.Abs(q)
	case "floor":
		return ratio.Floor(q)
	case "round":
		return ratio.Round(q)
	case "frac":
		return ratio.Frac(q)
	case "not":
		return ratio.Test("eq", q, api.Q{D: 1})
	case "fit":
		return quant.Fit(b.Format, q)
	}
	return q
}

// ofTwo returns the out of an op with two ins.
func ofTwo(op string, a, b api.Q) api.Q {
	switch op {
	case "add":
		return ratio.Add(a, b)
	case "sub":
		return ratio.Sub(a, b)
	case "mul":
		return ratio.Mul(a, b)
	case "div":
		return ratio.Div(a, b)
	case "mod":
		return ratio.Mod(a, b)
	case "min":
		return ratio.Min(a, b)
	case "max":
		return ratio.Max(a, b)
	case "lt", "le", "eq", "ne":
		return ratio.Test(op, a, b)
	}
	return ratio.Bits(op, a, b)
}

// picked returns one of two: the first, if s is 0, else the second.
func picked(s, a, b api.Q) api.Q {
	switch {
	case !ratio.Is(s):
		return api.Q{}
	case s.N == 0:
		return a
	}
	return b
}
