package cause

import (
	"serinette/api"
	"serinette/block"
)

// ways are the least delays between two sides: a row for each out, in it a delay for each in.
type ways struct {
	ins  int
	rows [][]int
}

// newWays returns ways that all have one delay.
func newWays(ins, outs, delay int) ways {
	w := ways{ins: ins}
	for range outs {
		row := make([]int, ins)
		for i := range row {
			row[i] = delay
		}
		w.rows = append(w.rows, row)
	}
	return w
}

// outs returns how many outs there are.
func (w ways) outs() int {
	return len(w.rows)
}

// add adds the ways that come with these delays, one for each in, to an in of b, and through b.
func (w ways) add(delays []int, b ways, in int) {
	for k, row := range w.rows {
		for i, delay := range delays {
			row[i] = least(row[i], sum(delay, b.rows[k][in]))
		}
	}
}

// waysWith returns the ways of a block that is no rec by those of its Kids.
func waysWith(b api.Block, kids []ways) ways {
	switch b.Op {
	case "par":
		return beside(kids[0], kids[1])
	case "seq", "split", "merge":
		return behind(kids[0], kids[1])
	case "up":
		if b.N > 1 {
			return newWays(kids[0].ins, kids[0].outs(), 0)
		}
		return kids[0]
	case "down":
		return slowed(b.N, kids[0])
	case "gate", "reset":
		return switched(kids[0])
	}
	return waysOfLeaf(b)
}

// waysOfLeaf returns the ways of a block without Kids.
func waysOfLeaf(b api.Block) ways {
	ins, outs, _ := block.Ports(b)
	w := newWays(ins, outs, 0)
	switch b.Op {
	case "delay", "vary":
		w.rows[0][0] = b.N
	case "store":
		w.rows[0][0], w.rows[0][1] = 1, 1
	}
	return w
}

// beside returns the ways of a and b side by side.
func beside(a, b ways) ways {
	w := newWays(a.ins+b.ins, a.outs()+b.outs(), noWay)
	for k, row := range a.rows {
		copy(w.rows[k], row)
	}
	for k, row := range b.rows {
		copy(w.rows[a.outs()+k][a.ins:], row)
	}
	return w
}

// behind returns the ways through a and then b. The side that has fewer ports is gone through again and again: a's outs in a split, b's ins in a merge.
func behind(a, b ways) ways {
	w := newWays(a.ins, b.outs(), noWay)
	for n := range max(a.outs(), b.ins) {
		w.add(a.rows[n%a.outs()], b, n%b.ins)
	}
	return w
}

// slowed returns the ways of a part that runs at each nth sample alone.
func slowed(n int, a ways) ways {
	w := newWays(a.ins, a.outs(), noWay)
	for k, row := range a.rows {
		for i, delay := range row {
			w.rows[k][i] = product(n, delay)
		}
	}
	return w
}

// switched returns the ways of a part that runs by the number at an in ahead of its own.
func switched(a ways) ways {
	w := newWays(1+a.ins, a.outs(), 0)
	for k, row := range a.rows {
		copy(w.rows[k][1:], row)
	}
	return w
}
