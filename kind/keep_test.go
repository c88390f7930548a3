package kind_test

import (
	"testing"

	"serinette/api"
	"serinette/kind"
	"serinette/mean"
)

// P9.1: how many numbers the cells have.
func TestKeeps(t *testing.T) {
	for text, want := range map[string]int{
		"wire": 0, "cut": 0, "(num 1)": 0, "pick": 0, "(fit fix(1,2,near,sat))": 0, "(table 1 2)": 0, `(knob "k" 0 0 1 0)`: 0, `(show "a")`: 0, "(up 8 add)": 0, "(reset add)": 0,
		"(delay 0)": 0, "(delay 1)": 1, "(delay 4096)": 4096, "(vary 0 0)": 0, "(vary 0 7)": 7, "(vary 7 7)": 7, "(store 5)": 1, "(store 1 2 none)": 3, "(wave 5)": 1, "(wave 5 6 7)": 1,
		"(down 1 wire)": 2, "(down 8 wire)": 2, "(down 3 (par wire neg))": 3, "(down 2 cut)": 1, "(gate wire)": 1, "(gate (par wire neg))": 2, "(gate cut)": 0,
		"(up 8 (delay 3))": 3, "(reset (delay 3))": 3, "(down 2 (delay 3))": 5, "(gate (delay 3))": 4, "(down 2 (gate (delay 3)))": 6, "(rec add (delay 1))": 1, "(rec (seq add (delay 5)) (delay 2))": 7,
		"(par (delay 1) (delay 2))": 3, "(seq (delay 1) (delay 2))": 3, "(split (delay 1) (par (delay 2) (delay 4)))": 7, "(merge (par (delay 2) (delay 4)) (delay 1))": 7, "(gate (gate (gate wire)))": 3, "(par (wave 1 2) (par (store 1 2) (vary 1 5)))": 8,
	} {
		if n, err := kind.Keeps(parse(text)); n != want || err != api.OK {
			t.Errorf("Keeps of %s: got %d, %v, want %d", text, n, err, want)
		}
	}
	if n, err := kind.Keeps(many(60, delay(api.MaxDelay))); n != 60*api.MaxDelay || err != api.OK {
		t.Errorf("Keeps of 60 delays: got %d, %v", n, err)
	}
}

// P9.1: drawn diagrams keep as many numbers as a player of them has in its cells.
func TestKeepsAsCells(t *testing.T) {
	c := &chance{state: 21}
	for range 6000 {
		b := c.any()
		p, err := mean.New(b)
		if err != api.OK {
			t.Fatalf("%s: New: %v", dump(b), err)
		}
		want := 0
		for _, cell := range p.Cells() {
			want += len(cell.Vals)
		}
		if n, err := kind.Keeps(b); n != want || err != api.OK {
			t.Fatalf("Keeps of %s: got %d, %v, want %d", dump(b), n, err, want)
		}
	}
}
