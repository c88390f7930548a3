package kind_test

import "testing"

// P9.1: blocks without Kids that have None at an out, but at no in; not num.
func TestWhence(t *testing.T) {
	comes(t, [][3]string{
		{"div", "[1,1]/1 const | [0,1]/1 const", "[]"}, {"div", "[1,1]/1 none const | [0,1]/1 const", ""}, {"div", "[1,1]/1 const | [0,1]/1 none const", ""}, {"div", "[1,1]/1 const | [2,2]/1 const", ""}, {"div", "[] const | [0,1]/1 const", ""}, {"add", "[0,M]/1 const | [0,1]/1 const", "[]"}, {"add", "[0,1]/0 const | [0,1]/1 const", "[]"}, {"add", "[0,1]/1 const | [0,1]/1 const", ""}, {"shl", "[1,1]/1 const | [1,1]/1 const", "[]"}, {"pick", "[0,1]/1 const | [1,2]/1 none const | [3,4]/1 const", ""},
		{"(fit fix(1,0,near,none))", "[0,5]/1 const", "[]"}, {"(fit fix(1,0,near,sat))", "[0,5]/1 const", ""}, {"(fit fix(1,0,near,none))", "[0,5]/1 none const", ""},
		{"(num none)", "", ""}, {"(seq (num none) neg)", "", ""}, {"(seq (par (num none) (num 0)) div)", "", ""}, {"(seq (par (num 1) (num 0)) div)", "", "[1]"},
		{"(table 1 none)", "[0,1]/1 const", "[]"}, {"(table 1 none)", "[0,1]/1 none const", ""}, {"(table 1 none)", "[] const", ""}, {"(table 1 2)", "[0,1]/1 const", ""}, {"(table 1 2)", "[*,*]/0 none const", ""}, {"(wave 1 none)", "", "[]"}, {"(wave none)", "", "[]"}, {"(wave 1 2)", "", ""},
		{"(store 1 none)", "[0,0]/1 const | [1,1]/1 const | [0,0]/1 const", "[]"}, {"(store 1 none)", "[0,0]/1 none const | [1,1]/1 const | [0,0]/1 const", ""}, {"(store 1 none)", "[0,0]/1 const | [1,1]/1 none const | [0,0]/1 const", ""}, {"(store 1 2)", "[0,0]/1 const | [1,1]/1 none const | [0,0]/1 const", ""}, {"(store 1 none)", "[0,0]/1 const | [1,1]/1 const | [] const", ""},
		{"(delay 1)", "[0,1]/0 none const", ""}, {"(vary 0 3)", "[0,1]/1 const | [*,*]/0 none const", ""}, {`(seq (par (knob "k" 1 0 2 0) (num 1)) add)`, "", "[1]"}, {`(seq (par (knob "k" 1 0 2 1) (num 1)) add)`, "", ""}, {"cut", "[] none const", ""}, {"wire", "[*,*]/0 none const", ""}, {`(show "a")`, "[*,*]/0 none const", ""},
	})
}

// P9.1: merges of which a sum has None, but no summand of it; each once.
func TestWhenceOfMerges(t *testing.T) {
	comes(t, [][3]string{
		{"(merge (par wire (par wire wire)) wire)", "[M,M]/1 const | [1,1]/1 const | [-5,-5]/1 const", "[]"}, {"(merge (par wire (par wire wire)) wire)", "[M,M]/1 const | [-5,-5]/1 const | [1,1]/1 const", ""}, {"(merge (par wire (par wire wire)) wire)", "[M,M]/1 const | [1,1]/1 const | [-5,-5]/1 none const", ""}, {"(merge (par wire (par wire wire)) wire)", "[M,M]/1 none const | [1,1]/1 const | [-5,-5]/1 const", ""}, {"(merge (par wire wire) wire)", "[] none const | [1,1]/1 const", ""}, {"(merge wire wire)", "[*,*]/0 const", ""},
		// Two sums: the one, the other, both.
		{"(merge (par (par wire wire) (par wire wire)) (par wire wire))", "[M,M]/1 const | [1,1]/1 none const | [1,1]/1 const | [1,1]/1 const", "[]"}, {"(merge (par (par wire wire) (par wire wire)) (par wire wire))", "[1,1]/1 const | [M,M]/1 const | [1,1]/1 none const | [1,1]/1 const", "[]"}, {"(merge (par (par wire wire) (par wire wire)) (par wire wire))", "[M,M]/1 const | [M,M]/1 const | [1,1]/1 const | [1,1]/1 const", "[]"}, {"(merge (par (par wire wire) (par wire wire)) (par wire wire))", "[M,M]/1 const | [1,1]/1 const | [-1,-1]/1 const | [1,1]/1 none const", ""},
		{"(seq neg (merge (split wire (par wire wire)) (delay 1)))", "[M,M]/1 const", "[1]"},
	})
}

// P9.1: places ascend, a block ahead of its Kids; each block stands once, whichever rounds found it.
func TestWhencePlaces(t *testing.T) {
	comes(t, [][3]string{
		{"(par div (par wire div))", "[1,1]/1 const | [0,0]/1 const | [0,0]/1 const | [1,1]/1 const | [0,0]/1 const", "[0] [1 1]"}, {"(par shl (par shr (par shl (par shr shl))))", "[0,0]/1 const | [0,0]/1 const | [0,0]/1 const | [0,0]/1 const | [0,0]/1 const | [0,0]/1 const | [0,0]/1 const | [0,0]/1 const | [0,0]/1 const | [0,0]/1 const", "[0] [1 0] [1 1 0] [1 1 1 0] [1 1 1 1]"},
		{"(merge (par (par wire wire) (par wire (table 1 none))) (par wire (par (wave none) wire)))", "[M,M]/1 const | [0,0]/1 const | [1,1]/1 const | [0,0]/1 const", "[] [0 1 1] [1 1 0]"},
		{"(gate (up 2 (reset (down 3 div))))", "[1,1]/1 const | [0,0]/1 const | [1,1]/1 const | [0,0]/1 const", "[0 0 0 0]"},
		// In the first rounds no in has None; in the last one has.
		{"(rec add (delay 1))", "[0,1]/1 const", "[0]"}, {"(rec add (seq (delay 1) (delay 1)))", "[0,1]/1 const", "[0]"}, {"(rec (seq add neg) (seq (delay 1) neg))", "[0,1]/1 const", "[0 0]"}, {"(rec (merge (par wire wire) wire) (delay 1))", "[0,1]/1 const", "[0]"}, {"(rec add (delay 1))", "[0,1]/1 none const", ""}, {"(rec add (delay 1))", "[0,0]/1 const", ""},
		{"(rec (seq (par (num 1) (seq (par wire (num 1)) max)) div) (delay 1))", "", ""}, {"(rec (seq (par (num 1) (seq (par wire (num 1)) add)) div) (delay 1))", "", "[0 1]"},
		{"(rec (seq add (rec add (delay 1))) (delay 1))", "[0,1]/1 const", "[0 1 0]"},
	})
}
