package cause

import (
	"slices"

	"serinette/api"
)

// trace is what is told of a diagram.
type trace struct {
	ways   ways
	loops  []int    // the least loop of each rec, kids ahead of the whole, from the left
	around *api.Way // the first loop without a delay; if there is one, nothing else is told
}

// traceOf returns what is told of a diagram whose ports fit.
func traceOf(b api.Block) trace {
	var kids []ways
	var loops []int
	for k, kid := range b.Kids {
		t := traceOf(kid)
		if t.around != nil {
			t.around.At = slices.Insert(t.around.At, 0, k)
			return t
		}
		kids = append(kids, t.ways)
		loops = append(loops, t.loops...)
	}
	if b.Op != "rec" {
		return trace{ways: waysWith(b, kids), loops: loops}
	}
	a, back := kids[0], kids[1]
	once := onceAround(a, back)
	often := everAround(once)
	loop := leastLoop(often)
	if loop == 0 {
		return trace{around: &api.Way{Outs: shortestLoop(once)}}
	}
	return trace{ways: fed(a, back.outs(), often), loops: append(loops, loop)}
}

// onceAround returns the ways in a rec from outs of a through back and a to outs of a.
func onceAround(a, back ways) ways {
	w := newWays(a.outs(), a.outs(), noWay)
	for in, delays := range back.rows {
		w.add(delays, a, in)
	}
	return w
}

// everAround returns the ways that go around once or more often, by those that do once.
func everAround(once ways) ways {
	w := ways{ins: once.ins}
	for _, row := range once.rows {
		w.rows = append(w.rows, slices.Clone(row))
	}
	for between := range w.rows {
		w.add(w.rows[between], w, between)
	}
	return w
}

// leastLoop returns the least delay of a way from an out around to itself.
func leastLoop(often ways) int {
	loop := noWay
	for out, row := range often.rows {
		loop = least(loop, row[out])
	}
	return loop
}

// fed returns the ways of a rec whose first Kid is a, so many of whose ins are fed, by those that go around.
func fed(a ways, ins int, often ways) ways {
	w := newWays(a.ins-ins, a.outs(), noWay)
	for k, row := range a.rows {
		copy(w.rows[k], row[ins:])
	}
	for out, row := range a.rows {
		w.add(row[ins:], often, out)
	}
	return w
}

// shortestLoop returns the outs of the loop without a delay that passes the fewest; of several that one whose numbers are least.
func shortestLoop(once ways) []int {
	var shortest []int
	for start := range once.rows {
		loop := loopFrom(once, start)
		if len(loop) > 0 && (len(shortest) == 0 || len(loop) < len(shortest)) {
			shortest = loop
		}
	}
	return shortest
}

// loopFrom returns the shortest loop without a delay whose least out is start, of several that one whose numbers are least; nothing: there is none.
func loopFrom(once ways, start int) []int {
	turns := turnsTo(once, start)
	if turns[start] == 0 {
		return nil
	}
	loop := []int{start}
	for left := turns[start] - 1; left > 0; left-- {
		last, next := loop[len(loop)-1], start
		for turns[next] != left || once.rows[next][last] != 0 {
			next++
		}
		loop = append(loop, next)
	}
	return loop
}

// turnsTo returns of each out how often a way without a delay goes around from it to the goal, at least, if it passes no out below the goal; 0: there is no such way.
func turnsTo(once ways, goal int) []int {
	turns := make([]int, once.ins)
	reached := []int{goal}
	for n := 0; n < len(reached); n++ {
		out := reached[n]
		further := turns[out] + 1
		for from := goal; from < once.ins; from++ {
			if turns[from] == 0 && once.rows[out][from] == 0 {
				turns[from] = further
				reached = append(reached, from)
			}
		}
	}
	return turns
}
