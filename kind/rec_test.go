package kind_test

import (
	"strings"
	"testing"

	"serinette/api"
)

// P9.1: what is fed back is joined to what is fed, in order, until a round changes nothing.
func TestRec(t *testing.T) {
	tells(t, [][3]string{
		// Nothing is fed back, or nothing is heard for it.
		{"(rec wire cut)", "[1,2]/1 const", "[1,2]/1 const"}, {"(rec (par wire neg) (seq wire cut))", "[1,2]/1 const | [3,4]/1 control", "[1,2]/1 const | [-4,-3]/1 control"}, {"(rec add (num 5))", "[1,2]/1 const", "[6,7]/1 const"}, {"(rec sub (wave 1 10))", "[1,2]/1 const", "[-1,9]/1 sample"}, {`(rec add (knob "k" 1 0 2 1))`, "[1,2]/1 const", "[1,4]/1 control"}, {"(rec add (num none))", "[1,2]/1 const", "[] none const"},
		// The outs of the second Kid are the first ins, and its ins the first outs.
		{"(rec (par sub wire) (par (num 10) (num 4)))", "[1,1]/1 const", "[6,6]/1 const | [1,1]/1 const"}, {"(rec (par wire (par wire wire)) (delay 1))", "[1,2]/1 const | [3,4]/1 control", "[0,0]/1 sample | [1,2]/1 const | [3,4]/1 control"}, {"(rec (par cut (par (num 3) wire)) neg)", "[1,2]/1 const", "[3,3]/1 const | [1,2]/1 const"}, {"(rec (par (num 3) (par cut neg)) (seq (par wire cut) neg))", "[1,2]/1 const", "[3,3]/1 const | [-2,-1]/1 const"},
		// It ends by itself.
		{"(rec min (delay 1))", "[1,2]/1 const", "[0,0]/1 sample"}, {"(rec max (delay 1))", "[-5,7]/2 control", "[0,7]/2 sample"}, {"(rec not (delay 1))", "", "[0,1]/1 sample"}, {"(rec (seq not neg) (delay 1))", "", "[-1,0]/1 sample"}, {"(rec (seq add (fit fix(3,0,near,sat))) (delay 1))", "[1,2]/1 const", "[1,7]/1 sample"},
		{"(rec add (delay 1))", "[0,0]/1 const", "[0,0]/1 sample"}, {"(rec add (delay 1))", "[] const", "[] sample"}, {"(rec add (delay 1))", "[] none const", "[] none sample"},
		// It grows, and is widened.
		{"(rec add (delay 1))", "[0,1]/1 const", "[0,*]/1 none sample"}, {"(rec add (delay 1))", "[-1,1]/1 sample", "[*,*]/1 none sample"}, {"(rec sub (delay 1))", "[0,1]/1 const", "[*,0]/1 none sample"}, {"(rec (par add wire) (par (delay 1) (delay 1)))", "[1,1]/1 const", "[0,*]/1 none sample | [1,1]/1 const"}, {"(rec mul (delay 1))", "[-5,7]/2 control", "[0,0]/0 none sample"}, {"(rec (seq (par wire (num 1/2)) mul) (delay 1))", "", "[0,0]/0 none sample"}, {"(rec (seq (par (seq (par wire (num 1/2)) mul) wire) add) (delay 1))", "[0,1]/1 const", "[*,*]/0 none sample"},
		// Recs within recs.
		{"(rec (seq add (rec min (delay 1))) (delay 1))", "[-1,0]/1 const", "[*,0]/1 none sample"}, {"(rec min (seq (rec max (delay 1)) (delay 1)))", "[-2,-1]/1 const", "[-2,-1]/1 sample"}, {"(rec (rec (seq (par min wire) max) (delay 1)) (delay 2))", "[-3,5]/1 const", "[0,5]/1 sample"},
		// Only the rate of what comes into the inner one grows.
		{"(rec (par (rec wire cut) wire) (vary 1 1))", "[] const", "[] sample | [] const"},
	})
}

// counting returns a rec that counts by one step, up or down to an end.
func counting(step, choose, end string) string {
	return "(rec (seq (seq (par wire (num " + step + ")) add) (seq (par wire (num " + end + ")) " + choose + ")) (delay 1))"
}

// P9.1: 8 rounds join; the 9th one widens, if there is still more.
func TestRounds(t *testing.T) {
	tells(t, [][3]string{
		{counting("1", "min", "6"), "", "[1,6]/1 sample"}, {counting("1", "min", "7"), "", "[1,7]/1 sample"}, {counting("1", "min", "8"), "", "[1,8]/1 none sample"}, {counting("1", "min", "100"), "", "[1,100]/1 none sample"},
		{counting("-1", "max", "-7"), "", "[-7,-1]/1 sample"}, {counting("-1", "max", "-8"), "", "[-8,-1]/1 none sample"}, {counting("1/2", "min", "7/2"), "", "[1/2,7/2]/2 sample"}, {counting("1/2", "min", "4"), "", "[1/2,4]/2 none sample"},
	})
	comes(t, [][3]string{
		{counting("1", "min", "7"), "", ""}, {counting("1", "min", "8"), "", "[0 0 1]"}, {counting("-1", "max", "-8"), "", "[0 0 1]"},
	})
}

// P9.1: what comes only after many rounds is the first that is there: it is not widened.
func TestLateRounds(t *testing.T) {
	for _, n := range []int{2, 8, 9, 10, 20, 60} {
		// Each out is what the one behind it is: the last one is the in.
		b := two("rec", many(n, leaf("wire")), row(leaf("cut"), many(n-1, leaf("wire"))))
		want := strings.Repeat(" | [3,5]/1 control", n)[3:]
		if got := textOf(tell(t, b, kinds("[3,5]/1 control"))); got != want {
			t.Errorf("%d wires: got %s, want %s", n, got, want)
		}
	}
}

// around returns recs within one another, so many, around what has one in and one out: the out of each is added to its in, later.
func around(times int, b api.Block) api.Block {
	for range times {
		b = two("rec", two("seq", leaf("add"), b), delay(1))
	}
	return b
}

// P9.2: telling comes to an end, also of many recs within one another, whose rounds would be as many as all theirs together.
func TestTellingEnds(t *testing.T) {
	for _, c := range [][3]string{
		// What is in the midst, what is told around it, and whether none comes from somewhere.
		{"neg", "[*,*]/1 none sample", "yes"}, {"(rec add (delay 1))", "[0,*]/1 none sample", "yes"}, {"(seq (split wire (par wire (num 3))) min)", "[0,3]/1 sample", "no"},
	} {
		b, ins := around(28, parse(c[0])), kinds("[0,1]/1 const")
		if got := textOf(tell(t, b, ins)); got != c[1] {
			t.Errorf("around %s: %s, want %s", c[0], got, c[1])
		}
		if places := whence(t, b, ins); len(places) > 0 != (c[2] == "yes") {
			t.Errorf("around %s: none from %v", c[0], places)
		}
	}
}

// P9.2: nor does it go on without end where the innermost sum takes what each of many recs feeds back.
func TestTellingOfManyFedBack(t *testing.T) {
	for n := 1; n <= 12; n++ {
		b := two("merge", many(n+1, leaf("wire")), leaf("wire"))
		for range n {
			b = two("rec", b, delay(1))
		}
		if got := textOf(tell(t, b, kinds("[0,1]/1 const"))); got != "[0,*]/1 none sample" {
			t.Errorf("%d recs: %s", n, got)
		}
		if n <= 5 {
			byWords(t, b, kinds("[-1,1]/1 const"))
		}
	}
}
