package block

import (
	"slices"

	"serinette/api"
	"serinette/quant"
	"serinette/ratio"
)

// shape tells what the blocks of an op are like: their ports, if they have no Kids, and which fields they have.
type shape struct {
	ins, outs int
	kids      int
	ints      int // 1: N; 2: N and M

	hasFormat, hasName, hasNums bool
}

// shapeOf returns the shape of an op's blocks; false: it is no op.
func shapeOf(op string) (s shape, ok bool) {
	switch op {
	case "cut":
		return shape{ins: 1}, true
	case "wire", "neg", "abs", "floor", "round", "frac", "not":
		return shape{ins: 1, outs: 1}, true
	case "add", "sub", "mul", "div", "mod", "min", "max", "lt", "le", "eq", "ne", "and", "or", "xor", "shl", "shr":
		return shape{ins: 2, outs: 1}, true
	case "pick":
		return shape{ins: 3, outs: 1}, true
	case "fit":
		return shape{ins: 1, outs: 1, hasFormat: true}, true
	case "delay":
		return shape{ins: 1, outs: 1, ints: 1}, true
	case "vary":
		return shape{ins: 2, outs: 1, ints: 2}, true
	case "num", "wave":
		return shape{outs: 1, hasNums: true}, true
	case "table":
		return shape{ins: 1, outs: 1, hasNums: true}, true
	case "store":
		return shape{ins: 3, outs: 1, hasNums: true}, true
	case "knob":
		return shape{outs: 1, hasName: true, hasNums: true}, true
	case "show":
		return shape{ins: 1, outs: 1, hasName: true}, true
	case "par", "seq", "split", "merge", "rec":
		return shape{kids: 2}, true
	case "up", "down":
		return shape{kids: 1, ints: 1}, true
	case "gate", "reset":
		return shape{kids: 1}, true
	}
	return shape{}, false
}

// isBare tells whether the op is all that there is of a block.
func (s shape) isBare() bool {
	return s == shape{ins: s.ins, outs: s.outs}
}

// isValid tells whether all blocks of b are valid, be it of any size, and whatever its ports are.
func isValid(b api.Block) bool {
	return hasItsFields(b) && isInRange(b) && !slices.ContainsFunc(b.Kids, func(kid api.Block) bool { return !isValid(kid) })
}

// hasItsFields tells whether the fields that the op of b does not have are zero, and the Kids as many as it has.
func hasItsFields(b api.Block) bool {
	s, ok := shapeOf(b.Op)
	return ok && len(b.Kids) == s.kids &&
		(s.ints >= 1 || b.N == 0) &&
		(s.ints >= 2 || b.M == 0) &&
		(s.hasFormat || b.Format == api.Format{}) &&
		(s.hasName || b.Name == "") &&
		(s.hasNums || len(b.Nums) == 0)
}

// isInRange tells whether the fields that the op of b has are as they must be.
func isInRange(b api.Block) bool {
	switch b.Op {
	case "num":
		return len(b.Nums) == 1 && ratio.Valid(b.Nums[0])
	case "fit":
		return quant.Valid(b.Format)
	case "delay":
		return 0 <= b.N && b.N <= api.MaxDelay
	case "vary":
		return 0 <= b.N && b.N <= b.M && b.M <= api.MaxDelay
	case "table", "store", "wave":
		return isTable(b.Nums)
	case "knob":
		return isPath(b.Name) && isControl(b.Nums)
	case "show":
		return isPath(b.Name)
	case "up", "down":
		return 1 <= b.N && b.N <= api.MaxTurns
	}
	return true
}

// isTable tells whether a table, a store or a wave may have these.
func isTable(l []api.Q) bool {
	return 1 <= len(l) && len(l) <= api.MaxTable && !slices.ContainsFunc(l, func(q api.Q) bool { return !ratio.Valid(q) })
}

// isPath tells whether s is a path.
func isPath(s string) bool {
	if len(s) < 1 || len(s) > api.MaxName {
		return false
	}
	for _, c := range []byte(s) {
		if !isPathByte(c) {
			return false
		}
	}
	return true
}

func isPathByte(c byte) bool {
	switch {
	case 'a' <= c && c <= 'z', 'A' <= c && c <= 'Z', '0' <= c && c <= '9':
		return true
	}
	return c == '_' || c == '-' || c == '/'
}

// isControl tells whether these are the Init, Lo, Hi and Step of a control.
func isControl(l []api.Q) bool {
	if len(l) != 4 || slices.ContainsFunc(l, func(q api.Q) bool { return !ratio.Is(q) }) {
		return false
	}
	first, lo, hi, step := l[0], l[1], l[2], l[3]
	if ratio.Cmp(lo, first) > 0 || ratio.Cmp(first, hi) > 0 || step.N < 0 {
		return false
	}
	return step.N == 0 || areStepsInRange(lo, hi, step)
}

// areStepsInRange tells whether over the lowest denominator that all steps have the numerators of 1, Lo and Hi are at most MaxNum.
func areStepsInRange(lo, hi, step api.Q) bool {
	common := lo.D * ratio.Make(lo.D, step.D).D
	greatest := ratio.Max(ratio.Abs(lo), ratio.Abs(hi))
	// The product may be in range and yet be no number, so ratio.Mul does not tell it; as common is up to MaxNum, it fits in an int64.
	return common <= api.MaxNum && common*greatest.N <= api.MaxNum*greatest.D
}
