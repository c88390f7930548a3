package kind_test

import "testing"

// P9.1: side by side, one behind the other, by copies, and by sums from the left.
func TestCompositions(t *testing.T) {
	tells(t, [][3]string{
		{"(par neg abs)", "[0,1]/1 const | [-3,2]/2 control", "[-1,0]/1 const | [0,3]/2 control"}, {"(par (par wire cut) (par (num 7) add))", "[0,1]/1 const | [] sample | [1,2]/1 control | [3,4]/1 const", "[0,1]/1 const | [7,7]/1 const | [4,6]/1 control"}, {"(par cut (num 2))", "[0,1]/1 sample", "[2,2]/1 const"},
		{"(seq neg (delay 1))", "[1,2]/1 const", "[-2,0]/1 sample"}, {"(seq (par wire neg) sub)", "[1,2]/1 const | [5,6]/1 control", "[6,8]/1 control"}, {"(seq cut (num 3))", "[] none sample", "[3,3]/1 const"}, {"(seq (delay 1) (seq cut (num 3)))", "[0,1]/1 const", "[3,3]/1 const"},
		{"(split wire sub)", "[0,1]/1 const", "[-1,1]/1 const"}, {"(split (par wire neg) (par sub (par neg wire)))", "[0,1]/1 const | [4,6]/2 control", "[4,7]/2 control | [-1,0]/1 const | [-6,-4]/2 control"}, {"(split (par wire neg) (par add (par wire (par wire (par wire wire)))))", "[0,1]/1 const | [4,6]/2 control", "[-6,-3]/2 control | [0,1]/1 const | [-6,-4]/2 control | [0,1]/1 const | [-6,-4]/2 control"}, {"(split (par neg wire) (par wire wire))", "[0,1]/1 const | [4,6]/2 control", "[-1,0]/1 const | [4,6]/2 control"},
		{`(seq (knob "k" 0 0 10 1) (split wire mul))`, "", "[0,100]/1 control"},
		{"(merge wire neg)", "[0,1]/0 none control", "[-1,0]/0 none control"}, {"(merge (par wire wire) wire)", "[0,1]/2 const | [5,6]/3 control", "[5,7]/6 control"}, {"(merge (par wire (par wire wire)) wire)", "[0,1]/1 const | [0,1]/1 sample | [0,1]/1 control", "[0,3]/1 sample"}, {"(merge (par wire wire) wire)", "[] const | [0,1]/1 control", "[] control"}, {"(merge (par wire wire) wire)", "[] none const | [0,1]/1 none const", "[] none const"},
		{"(merge (par (par wire wire) (par wire wire)) (par wire neg))", "[1,1]/1 const | [2,2]/1 control | [4,4]/1 const | [8,8]/1 const", "[5,5]/1 const | [-10,-10]/1 control"}, {"(merge (par (par (par wire wire) (par wire wire)) (par wire wire)) (par wire wire))", "[1,1]/1 const | [2,2]/1 const | [4,4]/1 const | [8,8]/1 const | [16,16]/1 const | [32,32]/1 const", "[21,21]/1 const | [42,42]/1 const"},
		// From the left: M and 1 are beyond, whatever is added behind them; what is at the other side of it is not.
		{"(merge (par wire (par wire wire)) wire)", "[M,M]/1 const | [1,1]/1 const | [-5,-5]/1 const", "[*,*]/1 none const"}, {"(merge (par wire (par wire wire)) wire)", "[M,M]/1 const | [-5,-5]/1 const | [1,1]/1 const", "[1073741820,1073741820]/1 const"}, {"(merge (par wire (par wire wire)) wire)", "[1/32768,1/32768]/32768 const | [1/32769,1/32769]/32769 const | [0,0]/1 const", "[0,1]/0 none const"},
	})
}

// P9.1: parts that do not run once at each sample: their outs change at each, and those of a gate are 0 ahead of the first, unless it always runs.
func TestTimedParts(t *testing.T) {
	for _, op := range []string{"up 1", "up 3", "down 1", "down 8"} {
		tells(t, [][3]string{
			{"(" + op + " wire)", "[1,2]/2 const", "[1,2]/2 sample"}, {"(" + op + " (par neg (num 3)))", "[1,2]/2 none control", "[-2,-1]/2 none sample | [3,3]/1 sample"}, {"(" + op + " (num none))", "", "[] none sample"}, {"(" + op + " add)", "[] const | [1,2]/1 const", "[] sample"}, {"(" + op + " (rec max (delay 1)))", "[-1,2]/1 const", "[0,2]/1 sample"}, {"(" + op + " cut)", "[1,2]/1 const", ""},
		})
	}
	tells(t, [][3]string{
		{"(reset wire)", "[0,1]/1 const | [1,2]/2 const", "[1,2]/2 sample"}, {"(reset wire)", "[] none const | [1,2]/2 control", "[1,2]/2 sample"}, {"(reset (par neg (num 3)))", "[*,*]/0 none sample | [1,2]/2 none control", "[-2,-1]/2 none sample | [3,3]/1 sample"}, {"(reset (num 3))", "[] const", "[3,3]/1 sample"},
		// Always on.
		{"(gate wire)", "[1,1]/1 const | [2,3]/2 const", "[2,3]/2 sample"}, {"(gate wire)", "[-1/2,-1/2]/2 sample | [2,3]/2 none control", "[2,3]/2 none sample"}, {"(gate (par neg (num 3)))", "[1,1]/1 const | [2,3]/2 const", "[-3,-2]/2 sample | [3,3]/1 sample"}, {"(gate wire)", "[1,1]/1 const | [] control", "[] sample"}, {"(gate wire)", "[1,1]/0 control | [2,3]/1 const", "[2,3]/1 sample"},
		// Not always.
		{"(gate wire)", "[0,0]/1 const | [2,3]/2 const", "[0,3]/2 sample"}, {"(gate wire)", "[1,1]/1 none const | [2,3]/2 const", "[0,3]/2 sample"}, {"(gate wire)", "[1,2]/1 const | [2,3]/2 const", "[0,3]/2 sample"}, {"(gate wire)", "[0,1]/1 const | [-3,-2]/2 none const", "[-3,0]/2 none sample"}, {"(gate wire)", "[] const | [2,3]/1 const", "[0,3]/1 sample"}, {"(gate wire)", "[] none const | [2,3]/1 const", "[0,3]/1 sample"}, {"(gate wire)", "[*,*]/0 none const | [] const", "[0,0]/1 sample"}, {"(gate wire)", "[*,*]/0 const | [] none const", "[0,0]/1 none sample"}, {"(gate (par neg (num 3)))", "[0,1]/1 const | [2,3]/2 const", "[-3,0]/2 sample | [0,3]/1 sample"},
	})
}
