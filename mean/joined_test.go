package mean_test

import (
	"testing"

	"serinette/api"
)

// P8.1: side by side, and one behind the other.
func TestParAndSeq(t *testing.T) {
	runs(t, [][3]string{
		{"(par neg wire)", "1 2 | 3 4", "-1 -2 | 3 4"}, {"(par sub (par neg sub))", "9 | 1 | 2 | 5 | 3", "8 | -2 | 2"}, {"(par (par wire cut) (par (num 7) neg))", "1 | 2 | 3", "1 | 7 | -3"},
		{"(seq (par wire neg) sub)", "5 7 | 2 none", "7 none"}, {"(seq neg (seq (delay 1) neg))", "1 2 3", "0 1 2"}, {"(seq (par cut wire) neg)", "1 2 | 3 4", "-3 -4"}, {"(seq cut (num 3))", "1 2", "3 3"},
		{"(seq (par wire (par wire wire)) (par sub neg))", "9 | 2 | 4", "7 | -4"},
	})
}

// P8.1: in i of the second Kid is out i modulo the number of the first one's outs.
func TestSplit(t *testing.T) {
	runs(t, [][3]string{
		{"(split wire sub)", "5 none", "0 none"}, {"(split (delay 1) add)", "1 2 3", "0 2 4"}, {"(split (num 3) (par wire (par neg wire)))", "", "3 | -3 | 3"},
		{"(split (par wire wire) (par sub sub))", "5 | 3", "2 | 2"}, {"(split (par wire wire) (par wire (par sub wire)))", "5 | 3", "5 | -2 | 3"},
		{"(split (par wire (par wire wire)) (par sub (par sub sub)))", "1 | 10 | 100", "-9 | 99 | -90"},
	})
}

// P8.1: in i of the second Kid is the sum of the outs that lie so many apart, from the left; each sum is a number or none by itself.
func TestMerge(t *testing.T) {
	runs(t, [][3]string{
		{"(merge wire neg)", "5 none", "-5 none"}, {"(merge (par wire (par wire wire)) wire)", "1 2 | 3 4 | 5 none", "9 none"}, {"(merge (par wire (par wire wire)) wire)", "1 none | none 1 | 2 3", "none none"},
		{"(merge (par wire (par wire wire)) wire)", "1073741824 1073741824 1 | 1 -5 1073741824 | -5 1 -5", "none 1073741820 none"},
		{"(merge (par (par wire wire) (par wire wire)) sub)", "1 | 2 | 3 | 4", "-2"}, {"(merge (par (par (par wire wire) (par wire wire)) (par wire wire)) sub)", "1 | 2 | 4 | 8 | 16 | 32", "-21"}, {"(merge (par (par (par wire wire) (par wire wire)) (par wire wire)) (par wire (par wire neg)))", "1 | 2 | 4 | 8 | 16 | 32", "9 | 18 | -36"},
	})
}

// swap is a diagram that turns two signals round.
const swap = "(split (par wire wire) (par (par cut wire) (par wire cut)))"

// P8.1: what comes back in a rec is there at the same sample.
func TestRec(t *testing.T) {
	runs(t, [][3]string{
		// Nothing is fed back, or nothing is heard for it.
		{"(rec wire cut)", "1 2", "1 2"}, {"(rec add cut)", "1 2 | 3 4", "4 6"}, {"(rec (par wire neg) (seq wire cut))", "1 2 | 3 4", "1 2 | -3 -4"}, {"(rec add (num 5))", "1 2", "6 7"}, {"(rec sub (wave 1 10))", "3 3 3", "-2 7 -2"},
		// All ins are fed, or some.
		{"(rec (seq (par wire (num 1)) add) (delay 1))", "", "1 2 3 4"}, {"(rec sub (par (delay 1) (num 2)))", "", "-2 -4 -6"}, {"(rec (par add (num 7)) (delay 1))", "1 1 1", "1 2 3 | 7 7 7"},
		{"(rec (par sub wire) (par (delay 1) (delay 2)))", "1 2 3 4", "0 0 -1 -3 | 1 2 3 4"}, {"(rec (par sub wire) (seq (par (delay 1) (delay 2)) " + swap + "))", "1 2 3 4", "0 0 1 1 | 1 2 3 4"},
		// Round without a delay, but to another out.
		{"(rec " + swap + " wire)", "1 2 none", "1 2 none | 1 2 none"}, {"(rec " + swap + " neg)", "1 2", "1 2 | -1 -2"},
		// None goes round.
		{"(rec add (delay 1))", "1 none 1 1", "1 none none none"}, {"(rec add (delay 2))", "1 none 1 1 1", "1 none 2 none 3"},
		// Recs within recs.
		{"(rec (seq add (rec add (delay 1))) (delay 1))", "1 0 0 0", "1 2 4 8"}, {"(rec add (seq (delay 1) (rec add (delay 1))))", "1 0 0 0", "1 1 2 4"}, {"(rec (rec (seq (par wire add) add) (delay 1)) (delay 2))", "1 0 0 0 0", "1 1 2 3 5"},
	})
}

// P8.1: a loop goes through a part that has its delay, also if that does not run at each sample.
func TestRecThroughParts(t *testing.T) {
	const more = "(seq (par wire (num 1)) add)"
	runs(t, [][3]string{
		{"(rec (down 2 (delay 1)) " + more + ")", "", "0 0 1 1 2 2 3"},
		{"(rec (seq " + swap + " (gate (delay 1))) " + more + ")", "1 1 0 1 1", "0 1 1 2 3"},
		{"(rec (seq " + swap + " (gate (seq (delay 1) neg))) " + more + ")", "1 1 1 0 1", "0 -1 0 0 -1"},
		{"(rec (seq " + swap + " (reset (delay 1))) " + more + ")", "0 0 0 1 0", "0 1 2 0 1"},
		{"(rec (vary 1 3) " + more + ")", "1 1 1 2 3 0", "0 1 2 2 2 3"},
		{"(rec (store 5) (split wire (par (table 0) " + more + ")))", "0 0 0", "5 6 7"},
		{"(rec (up 1 (delay 1)) " + more + ")", "", "0 1 2"}, {"(rec (seq (delay 1) (up 3 wire)) " + more + ")", "", "0 1 2"},
		// One out of the part is heard at once, while another comes later.
		{"(rec (down 2 (par (delay 1) wire)) (seq (par (delay 1) wire) add))", "1 2 3 4 5 6 7", "0 0 1 1 3 3 6 | 1 1 3 3 5 5 7"},
	})
}

// P8.1: many hear what others hear, too; all comes to an end nevertheless.
func TestSharedSignals(t *testing.T) {
	links := []api.Block{leaf("max"), {Op: "vary", M: 3}, one("gate", wire()), one("reset", wire()), turned("down", 1, leaf("max")), two("merge", wires(2), wire()), two("seq", leaf("max"), turned("up", 1, wire())), two("seq", leaf("max"), delay(0))}
	for _, link := range links {
		chain := wire()
		for range 40 {
			chain = two("split", chain, link)
		}
		if got := playText(t, chain, [][]api.Q{numbers(t, "0 0 0")}, 3); got != "0 0 0" {
			t.Errorf("%s again and again: %s", dump(link), got)
		}
	}
}
