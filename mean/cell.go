package mean

import (
	"slices"

	"serinette/api"
)

// Cell is what the block at a place keeps.
type Cell struct {
	At   []int
	Op   string
	Vals []api.Q
}

// keeper is a player that has a cell.
type keeper interface {
	player
	vals() []api.Q     // in new memory
	load(vals []api.Q) // may keep this memory
}

// cell is a keeper, and where it stands. If the first of its numbers is a place, there are so many places.
type cell struct {
	keeper keeper
	at     []int
	op     string
	places int
}

// Cells returns what p keeps, in the order of places.
func (p *Player) Cells() []Cell {
	if p.isNil() {
		return nil
	}
	var l []Cell
	for _, c := range p.diagram.cells {
		l = append(l, Cell{slices.Clone(c.at), c.op, c.keeper.vals()})
	}
	return l
}

// Load makes p keep what cells of the same diagram have.
func (p *Player) Load(l []Cell) api.Errno {
	if p.isNil() {
		return api.ErrNil
	}
	if !slices.EqualFunc(l, p.diagram.cells, isFor) {
		return api.ErrArg
	}
	for i, c := range p.diagram.cells {
		c.keeper.load(cleaned(l[i].Vals))
	}
	return api.OK
}

// isFor tells whether a Cell may be loaded into c.
func isFor(l Cell, c cell) bool {
	return slices.Equal(l.At, c.at) && l.Op == c.op && len(l.Vals) == len(c.keeper.vals()) &&
		(c.places == 0 || isPlace(l.Vals[0], c.places))
}

// isPlace tells whether q is one of so many places.
func isPlace(q api.Q, places int) bool {
	return q.D == 1 && 0 <= q.N && q.N < int64(places)
}
