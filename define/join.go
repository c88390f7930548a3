package define

import (
	"serinette/api"
	"serinette/block"
)

// joined returns what an op makes of blocks, from the left, as block.Row and block.Chain do. It copies none, for an evaluation may hold a great block in many others.
func joined(op string, l ...api.Block) api.Block {
	b := l[0]
	for _, next := range l[1:] {
		b = api.Block{Op: op, Kids: []api.Block{b, next}}
	}
	return b
}

// asked returns the diagram of a block that is new, if its ports are OK.
func asked(b api.Block) (value, api.Errno) {
	if _, _, err := portsOf(b); err != api.OK {
		return nil, err
	}
	return diagram(b), api.OK
}

// portsOf returns the ports of a block whose Kids have been asked for theirs. Paths are asked for at last only, so here the Kids have none.
func portsOf(b api.Block) (ins, outs int, err api.Errno) {
	b.Kids = plain(b.Kids)
	return block.Ports(b)
}

// plain returns blocks of the same trees and ports without paths; also without tables, whose numbers need not be looked at again.
func plain(l []api.Block) []api.Block {
	var kids []api.Block
	for _, b := range l {
		switch b.Op {
		case "knob", "wave":
			b = block.Num(api.Q{})
		case "show", "table":
			b = block.Leaf("wire")
		case "store":
			b = block.Leaf("pick")
		}
		b.Kids = plain(b.Kids)
		kids = append(kids, b)
	}
	return kids
}
