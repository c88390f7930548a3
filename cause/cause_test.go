package cause_test

import (
	"slices"
	"strings"
	"testing"

	"serinette/api"
)

// P7.1: each op, from each in.
func TestOps(t *testing.T) {
	tryTexts(t, [][2]string{
		{"wire", "[[0]] []"}, {`(show "a")`, "[[0]] []"}, {"cut", "[] []"}, {"(fit fix(1,2,near,sat))", "[[0]] []"},
		{"(num 1/2)", "[[]] []"}, {"(num none)", "[[]] []"}, {`(knob "a" 1 0 2 1/10)`, "[[]] []"}, {"(wave 1)", "[[]] []"}, {"(wave 1 2 3)", "[[]] []"},
		{"(delay 0)", "[[0]] []"}, {"(delay 1)", "[[1]] []"}, {"(delay 2)", "[[2]] []"}, {"(delay 4096)", "[[4096]] []"},
		{"(vary 0 0)", "[[0 0]] []"}, {"(vary 0 5)", "[[0 0]] []"}, {"(vary 1 5)", "[[1 0]] []"}, {"(vary 5 5)", "[[5 0]] []"}, {"(vary 4096 4096)", "[[4096 0]] []"},
		{"(table 7)", "[[0]] []"}, {"(table 1 2 3)", "[[0]] []"}, {"(store 0)", "[[1 1 0]] []"}, {"(store 1 2 3)", "[[1 1 0]] []"},
	})
	for ops, want := range map[string]string{
		"neg abs floor round frac not":                               "[[0]] []",
		"add sub mul div mod min max lt le eq ne and or xor shl shr": "[[0 0]] []",
		"pick": "[[0 0 0]] []",
	} {
		for _, op := range strings.Fields(ops) {
			try(t, []told{{leaf(op), want}})
		}
	}
}

// P7.1: side by side there is no way from one to the other.
func TestPar(t *testing.T) {
	tryTexts(t, [][2]string{
		{"(par (delay 1) (delay 2))", "[[1 -1] [-1 2]] []"}, {"(par (delay 2) wire)", "[[2 -1] [-1 0]] []"},
		{"(par cut (delay 2))", "[[-1 2]] []"}, {"(par (delay 2) cut)", "[[2 -1]] []"}, {"(par cut cut)", "[] []"}, {"(par cut (num 1))", "[[-1]] []"}, {"(par (num 1) cut)", "[[-1]] []"},
		{"(par (delay 2) (num 1))", "[[2] [-1]] []"}, {"(par (num 1) (delay 2))", "[[-1] [2]] []"}, {"(par (num 1) (num 2))", "[[] []] []"},
		{"(par (vary 3 4) (store 0))", "[[3 0 -1 -1 -1] [-1 -1 1 1 0]] []"}, {"(par (par (delay 1) (delay 2)) (par (delay 3) (delay 4)))", "[[1 -1 -1 -1] [-1 2 -1 -1] [-1 -1 3 -1] [-1 -1 -1 4]] []"},
		{"(seq (num 1) cut)", "[] []"}, {"(par (seq (num 1) cut) (delay 2))", "[[2]] []"}, {"(par (delay 2) (seq (num 1) cut))", "[[2]] []"},
	})
}

// P7.1: one behind the other.
func TestSeq(t *testing.T) {
	tryTexts(t, [][2]string{
		{"(seq (delay 2) (delay 3))", "[[5]] []"}, {"(seq wire (delay 3))", "[[3]] []"}, {"(seq (delay 0) neg)", "[[0]] []"}, {"(seq (delay 4096) (seq (delay 4096) (delay 1)))", "[[8193]] []"},
		{"(seq cut (num 1))", "[[-1]] []"}, {"(seq (par cut (num 1)) (delay 2))", "[[-1]] []"}, {"(seq (delay 2) (par cut (num 1)))", "[[-1]] []"}, {"(seq (num 1) (delay 2))", "[[]] []"}, {"(seq (delay 2) cut)", "[] []"},
		{"(seq (vary 3 4) (delay 2))", "[[5 2]] []"}, {"(seq (par (delay 1) (delay 2)) (vary 10 20))", "[[11 2]] []"}, {"(seq (par (delay 1) (par (delay 2) (delay 3))) (store 0))", "[[2 3 3]] []"},
		// Outs that cross no more than they are told to.
		{"(seq (par (delay 1) (delay 2)) (par (delay 10) (delay 20)))", "[[11 -1] [-1 22]] []"}, {"(seq (par add wire) (par (delay 1) (delay 2)))", "[[1 1 -1] [-1 -1 2]] []"},
	})
	try(t, []told{
		// Of several ways the least one, wherever it stands.
		{two("seq", mix([]int{3}, []int{2}), mix([]int{4, 6})), "[[7]] []"},
		{two("seq", mix([]int{3}, []int{2}), mix([]int{4, 4})), "[[6]] []"},
		{two("seq", mix([]int{0}, []int{9}), mix([]int{10, 0})), "[[9]] []"},
		{two("seq", mix([]int{1}, []int{9}), mix([]int{8, 0})), "[[9]] []"},
		{two("seq", mix([]int{5}, []int{-1}, []int{4}), mix([]int{3, 0, 4})), "[[8]] []"},
		{two("seq", mix([]int{-1}, []int{0}), mix([]int{0, -1})), "[[-1]] []"},
		{two("seq", mix([]int{1, -1}, []int{5, 2}), mix([]int{7, 1}, []int{-1, 3}, []int{0, -1})), "[[6 3] [8 5] [1 -1]] []"},
	})
}

// P7.1: an out feeds many ins.
func TestSplit(t *testing.T) {
	tryTexts(t, [][2]string{
		{"(split (delay 2) (delay 3))", "[[5]] []"}, {"(split wire add)", "[[0]] []"}, {"(split (delay 1) (par (delay 2) (par cut (delay 3))))", "[[3] [4]] []"},
		{"(split (delay 1) (vary 7 9))", "[[1]] []"}, {"(split (delay 1) (seq (par (delay 2) (delay 3)) (vary 7 9)))", "[[4]] []"}, {"(split (delay 1) (seq (par (delay 5) (delay 3)) add))", "[[4]] []"}, {"(split (delay 1) (seq (par (delay 3) (delay 5)) add))", "[[4]] []"},
		{"(split (num 1) (par (delay 1) (delay 2)))", "[[] []] []"}, {"(split wire (par cut cut))", "[] []"}, {"(split wire (par cut (par cut (num 1))))", "[[-1]] []"},
		// In i is fed by out i modulo their number.
		{"(split (par (delay 1) (delay 2)) (par (par wire (delay 10)) (par (delay 20) (delay 30))))", "[[1 -1] [-1 12] [21 -1] [-1 32]] []"},
		{"(split (par (delay 1) (delay 2)) (par (par wire cut) (par cut (delay 30))))", "[[1 -1] [-1 32]] []"},
		{"(split (par (delay 1) (delay 2)) (par (vary 5 5) (vary 5 5)))", "[[6 2] [6 2]] []"},
		{"(split (par (delay 1) (par (delay 2) (delay 3))) (par (vary 10 10) (par (vary 20 20) (vary 30 30))))", "[[11 2 -1] [1 -1 23] [-1 32 3]] []"},
		{"(split (par (delay 1) (delay 2)) (par (store 0) (store 0)))", "[[1 3] [2 2]] []"},
	})
}

// P7.1: many outs feed an in.
func TestMerge(t *testing.T) {
	tryTexts(t, [][2]string{
		{"(merge (delay 2) (delay 3))", "[[5]] []"}, {"(merge (par (delay 1) (delay 2)) (delay 4))", "[[5 6]] []"}, {"(merge (par wire (par wire wire)) wire)", "[[0 0 0]] []"},
		{"(merge (par (num 1) (delay 2)) (delay 4))", "[[6]] []"}, {"(merge (par cut (par (delay 1) (num 1))) (delay 4))", "[[-1 5]] []"}, {"(merge (par (num 1) (num 2)) wire)", "[[]] []"}, {"(merge (par wire wire) cut)", "[] []"},
		{"(merge (split wire (par (delay 5) (delay 3))) wire)", "[[3]] []"}, {"(merge (split wire (par (delay 3) (delay 5))) (delay 1))", "[[4]] []"},
		// In i sums the outs i, i + ins ..
		{"(merge (par (par (delay 1) (delay 2)) (par (delay 3) (delay 4))) (par wire (delay 10)))", "[[1 -1 3 -1] [-1 12 -1 14]] []"},
		{"(merge (par (par (delay 1) (delay 2)) (par (delay 3) (delay 4))) (vary 10 10))", "[[11 2 13 4]] []"},
		{"(merge (par (store 0) (par wire (par (delay 5) (delay 6)))) (par wire (delay 100)))", "[[1 1 0 -1 5 -1] [-1 -1 -1 100 -1 106]] []"},
		{"(merge (split wire (par (par (delay 9) (delay 2)) (par (delay 3) (delay 8)))) (par wire (delay 10)))", "[[3] [12]] []"},
		// Both, one behind the other.
		{"(merge (split (par (delay 1) (delay 2)) (par (par (delay 3) (delay 4)) (par (delay 5) (delay 6)))) wire)", "[[4 6]] []"},
	})
}

// P7.1: parts that run more or less often.
func TestUpAndDown(t *testing.T) {
	tryTexts(t, [][2]string{
		{"(up 1 (delay 3))", "[[3]] []"}, {"(up 1 (par cut (num 1)))", "[[-1]] []"}, {"(up 1 (par (vary 2 2) (delay 1)))", "[[2 0 -1] [-1 -1 1]] []"}, {"(up 1 cut)", "[] []"},
		{"(up 2 (delay 3))", "[[0]] []"}, {"(up 8 (delay 4096))", "[[0]] []"}, {"(up 2 wire)", "[[0]] []"}, {"(up 2 (par (delay 1) (delay 2)))", "[[0 0] [0 0]] []"}, {"(up 3 (store 0))", "[[0 0 0]] []"},
		// Also where the part has no way.
		{"(up 2 (par cut (num 1)))", "[[0]] []"}, {"(up 2 (par cut (par (delay 2) (num 1))))", "[[0 0] [0 0]] []"}, {"(up 2 cut)", "[] []"}, {"(up 2 (num 1))", "[[]] []"}, {"(up 2 (seq (num 1) cut))", "[] []"},
		{"(down 1 (delay 3))", "[[3]] []"}, {"(down 2 (delay 3))", "[[6]] []"}, {"(down 8 (delay 4096))", "[[32768]] []"}, {"(down 2 wire)", "[[0]] []"}, {"(down 3 (vary 2 5))", "[[6 0]] []"}, {"(down 3 (store 0))", "[[3 3 0]] []"},
		{"(down 2 (par cut (num 1)))", "[[-1]] []"}, {"(down 3 (par (delay 1) (delay 2)))", "[[3 -1] [-1 6]] []"}, {"(down 2 cut)", "[] []"}, {"(down 2 (num 1))", "[[]] []"},
		{"(down 2 (down 3 (delay 5)))", "[[30]] []"}, {"(up 2 (up 3 (delay 5)))", "[[0]] []"}, {"(down 2 (up 3 (delay 5)))", "[[0]] []"}, {"(up 2 (down 3 (delay 5)))", "[[0]] []"}, {"(up 1 (down 3 (delay 5)))", "[[15]] []"}, {"(down 3 (up 1 (delay 5)))", "[[15]] []"}, {"(up 1 (up 1 (delay 5)))", "[[5]] []"},
		{"(seq (down 2 (delay 3)) (down 3 (delay 2)))", "[[12]] []"}, {"(down 2 (seq (delay 3) (down 3 (delay 2))))", "[[18]] []"}, {"(seq (up 2 (delay 3)) (delay 2))", "[[2]] []"},
	})
}

// P7.1: parts that run, or begin again, by their first in.
func TestGateAndReset(t *testing.T) {
	for _, op := range []string{"gate", "reset"} {
		var l [][2]string
		for _, c := range [][2]string{
			{"(OP wire)", "[[0 0]] []"}, {"(OP (delay 3))", "[[0 3]] []"}, {"(OP (num 1))", "[[0]] []"}, {"(OP cut)", "[] []"}, {"(OP (seq (num 1) cut))", "[] []"}, {"(OP (par cut (num 1)))", "[[0 -1]] []"},
			{"(OP (par (delay 1) (delay 2)))", "[[0 1 -1] [0 -1 2]] []"}, {"(OP (par (num 1) (vary 2 2)))", "[[0 -1 -1] [0 2 0]] []"},
			{"(OP (OP (delay 2)))", "[[0 0 2]] []"}, {"(OP (reset (delay 2)))", "[[0 0 2]] []"}, {"(OP (up 2 (delay 2)))", "[[0 0]] []"}, {"(up 2 (OP (delay 2)))", "[[0 0]] []"},
			{"(down 2 (OP (delay 3)))", "[[0 6]] []"}, {"(OP (down 2 (delay 3)))", "[[0 6]] []"}, {"(seq (par (delay 1) (delay 2)) (OP (delay 3)))", "[[1 5]] []"},
		} {
			l = append(l, [2]string{strings.ReplaceAll(c[0], "OP", op), c[1]})
		}
		tryTexts(t, l)
	}
}

// P7.1: sums and products above 2^30 count as it.
func TestLongest(t *testing.T) {
	// 8^6 times 4096 is 2^30.
	longest := slow(6, delay(4096))
	less := lasting(1<<30 - 1)
	l := []told{
		{longest, "[[1073741824]] []"}, {less, "[[1073741823]] []"}, {slow(6, delay(4095)), "[[1073479680]] []"},
		{two("seq", less, delay(1)), "[[1073741824]] []"}, {two("seq", less, delay(2)), "[[1073741824]] []"}, {two("seq", delay(2), less), "[[1073741824]] []"}, {two("seq", longest, delay(1)), "[[1073741824]] []"}, {two("seq", longest, longest), "[[1073741824]] []"}, {two("seq", longest, delay(0)), "[[1073741824]] []"},
		{two("seq", longest, two("seq", longest, longest)), "[[1073741824]] []"}, {two("split", less, two("seq", mix([]int{2, -1}, []int{-1, 4096}), leaf("add"))), "[[1073741824]] []"}, {two("merge", two("par", less, longest), delay(3)), "[[1073741824 1073741824]] []"},
		{slow(7, delay(4096)), "[[1073741824]] []"}, {slow(7, delay(512)), "[[1073741824]] []"}, {slow(7, delay(511)), "[[1071644672]] []"}, {slow(7, delay(513)), "[[1073741824]] []"}, {slow(59, delay(4096)), "[[1073741824]] []"}, {slow(59, delay(1)), "[[1073741824]] []"}, {slow(59, delay(0)), "[[0]] []"},
		{turned("down", 2, less), "[[1073741824]] []"}, {turned("down", 2, longest), "[[1073741824]] []"}, {turned("down", 1, longest), "[[1073741824]] []"}, {turned("down", 1, less), "[[1073741823]] []"}, {turned("down", 7, slow(5, delay(4096))), "[[939524096]] []"},
		{turned("down", 3, lasting(357913941)), "[[1073741823]] []"}, {turned("down", 3, lasting(357913942)), "[[1073741824]] []"}, {turned("down", 5, lasting(214748364)), "[[1073741820]] []"}, {turned("down", 5, lasting(214748365)), "[[1073741824]] []"}, {turned("down", 7, lasting(153391689)), "[[1073741823]] []"}, {turned("down", 7, lasting(153391690)), "[[1073741824]] []"}, {turned("down", 8, lasting(1<<27-1)), "[[1073741816]] []"}, {turned("down", 2, lasting(1<<29)), "[[1073741824]] []"},
		{slow(20, two("par", cut(), num())), "[[-1]] []"}, {slow(20, two("par", delay(1), delay(0))), "[[1073741824 -1] [-1 0]] []"}, {slow(20, api.Block{Op: "vary", N: 9, M: 9}), "[[1073741824 0]] []"}, {slow(20, api.Block{Op: "store", Nums: num().Nums}), "[[1073741824 1073741824 0]] []"},
		{one("gate", two("seq", longest, longest)), "[[0 1073741824]] []"}, {turned("up", 2, two("seq", longest, longest)), "[[0]] []"},
		// What is longest is still more than what is not.
		{two("split", wire(), two("seq", two("par", two("seq", longest, longest), less), leaf("add"))), "[[1073741823]] []"},
		// Around a rec, and behind it.
		{two("rec", leaf("add"), longest), "[[0]] [1073741824]"}, {two("rec", leaf("add"), less), "[[0]] [1073741823]"}, {two("rec", leaf("add"), two("seq", longest, delay(1))), "[[0]] [1073741824]"}, {two("rec", leaf("add"), slow(30, delay(4096))), "[[0]] [1073741824]"},
		{two("rec", two("seq", leaf("add"), delay(1)), less), "[[1]] [1073741824]"}, {two("rec", two("seq", leaf("add"), delay(2)), less), "[[2]] [1073741824]"}, {two("rec", two("seq", leaf("add"), less), less), "[[1073741823]] [1073741824]"}, {two("rec", two("seq", leaf("add"), longest), delay(0)), "[[1073741824]] [1073741824]"},
		// Two outs, each of which leads to the other one.
		{two("rec", two("seq", mix([]int{-1, 0, 1}, []int{0, -1, -1}), two("par", less, less)), wires(2)), "[[1073741824] [1073741824]] [1073741824]"},
		{two("rec", two("seq", mix([]int{-1, 0, 0}, []int{0, -1, -1}), two("par", delay(1), less)), wires(2)), "[[1] [1073741824]] [1073741824]"},
		{two("rec", two("seq", mix([]int{-1, 0, 0}, []int{0, -1, -1}), two("par", delay(0), less)), wires(2)), "[[0] [1073741823]] [1073741823]"},
	}
	try(t, l)
}

// P7.1: what a rec leads to what, not around, once around, and more often.
func TestRec(t *testing.T) {
	tryTexts(t, [][2]string{
		{"(rec add (delay 1))", "[[0]] [1]"}, {"(rec add (delay 4096))", "[[0]] [4096]"}, {"(rec (seq add (delay 2)) wire)", "[[2]] [2]"}, {"(rec (seq add (delay 2)) (delay 3))", "[[2]] [5]"}, {"(rec (delay 1) wire)", "[[]] [1]"},
		// Its ins that are fed are the first ones.
		{"(rec (vary 1 1) wire)", "[[0]] [1]"}, {"(rec (vary 0 1) wire)", "around [] [0]"}, {"(rec (seq (par wire (delay 5)) add) (delay 1))", "[[5]] [1]"}, {"(rec (store 0) wire)", "[[1 0]] [1]"}, {"(rec (store 0) (par wire (num 1)))", "[[0]] [1]"}, {"(rec (store 0) (par (num 1) wire))", "[[0]] [1]"},
		{"(rec (store 0) (split wire (par wire wire)))", "[[0]] [1]"}, {"(rec (store 0) (split wire (par (delay 3) (delay 2))))", "[[0]] [3]"},
		{"(rec (par wire (delay 2)) (delay 5))", "[[-1] [2]] [5]"}, {"(rec (par (delay 2) wire) (delay 5))", "[[-1] [0]] [7]"},
		// Nothing fed, or nothing told.
		{"(rec wire cut)", "[[0]] [-1]"}, {"(rec (delay 2) cut)", "[[2]] [-1]"}, {"(rec wire (num 1))", "[[]] [-1]"}, {"(rec add (num 1))", "[[0]] [-1]"}, {"(rec (vary 3 3) (num 1))", "[[0]] [-1]"}, {"(rec (vary 3 3) (seq (num 1) cut))", "[[3 0]] [-1]"}, {"(rec cut (num 1))", "[] [-1]"}, {"(rec (par wire cut) (par cut (num 1)))", "[[-1]] [-1]"},
		{"(rec (par cut (num 1)) wire)", "[[]] [-1]"}, {"(rec (seq (num 1) cut) (seq (num 1) cut))", "[] [-1]"}, {"(rec (par cut (delay 3)) wire)", "[[3]] [-1]"}, {"(rec (par cut (par (num 1) wire)) wire)", "[[-1] [0]] [-1]"},
		// More outs than are taken: the first ones are.
		{"(rec (par add wire) (delay 1))", "[[0 -1] [-1 0]] [1]"}, {"(rec (par wire add) (delay 1))", "[[-1 -1] [0 0]] [1]"}, {"(rec (par (par wire wire) (delay 9)) (par (delay 3) (delay 2)))", "[[-1] [-1] [9]] [2]"},
		// From an out to another one once around.
		{"(rec (par (num 1) (par wire (delay 4))) (delay 3))", "[[-1] [-1] [4]] [-1]"}, {"(rec (par (num 1) wire) (delay 3))", "[[] []] [-1]"}, {"(rec (par (delay 4) wire) (seq (par cut wire) (delay 3)))", "[[7] [0]] [-1]"},
	})
	try(t, []told{
		// Once around: the fed in leads to out 1 in 2, out 0 is led to the fed in in 3.
		{two("rec", mix([]int{-1, 5}, []int{2, -1}), delay(3)), "[[5] [10]] [-1]"}, {two("rec", mix([]int{-1, 5}, []int{2, 9}), delay(3)), "[[5] [9]] [-1]"}, {two("rec", mix([]int{-1, 5}, []int{2, 11}), delay(3)), "[[5] [10]] [-1]"}, {two("rec", mix([]int{-1, -1}, []int{2, 9}), delay(3)), "[[-1] [9]] [-1]"},
		{two("rec", mix([]int{4, 5}, []int{2, -1}), delay(3)), "[[5] [10]] [7]"},
		{two("rec", mix([]int{2, 3, -1}, []int{-1, 4, 0}), mix([]int{5, 1})), "[[3 3] [4 0]] [7]"}, {two("rec", mix([]int{2, 3, -1}, []int{0, 4, 0}), mix([]int{5, 1})), "[[3 3] [4 0]] [1]"},
		// Twice around, and thrice.
		{two("rec", mix([]int{-1, -1, -1, 1}, []int{2, -1, -1, -1}, []int{-1, 3, -1, -1}), wires(3)), "[[1] [3] [6]] [-1]"},
		{two("rec", mix([]int{-1, -1, 10, 1}, []int{2, -1, -1, -1}, []int{-1, 3, -1, -1}), wires(3)), "[[1] [3] [6]] [15]"},
		{two("rec", mix([]int{-1, -1, -1, 1}, []int{-1, -1, 2, -1}, []int{3, -1, -1, -1}), wires(3)), "[[1] [6] [4]] [-1]"},
		{two("rec", mix([]int{-1, 4, -1, -1, -1}, []int{-1, -1, 5, -1, -1}, []int{-1, -1, -1, 6, -1}, []int{-1, -1, -1, -1, 1}), wires(4)), "[[16] [12] [7] [1]] [-1]"},
		{two("rec", mix([]int{-1, 4, -1, -1, -1}, []int{-1, -1, 5, -1, -1}, []int{-1, -1, -1, 6, -1}, []int{7, -1, -1, -1, 1}), wires(4)), "[[16] [12] [7] [1]] [22]"},
		{two("rec", mix([]int{-1, 4, -1, -1, -1}, []int{-1, -1, 5, -1, -1}, []int{-1, 3, -1, 6, -1}, []int{7, -1, -1, -1, 1}), wires(4)), "[[16] [12] [7] [1]] [8]"},
		{two("rec", mix([]int{-1, 4, -1, 13, -1}, []int{-1, -1, 5, -1, -1}, []int{-1, -1, -1, 6, -1}, []int{-1, -1, -1, -1, 1}), wires(4)), "[[14] [12] [7] [1]] [-1]"},
		// Of several loops the least one, also such as passes more outs.
		{two("rec", mix([]int{9, 2}, []int{3, -1}), wires(2)), "[[] []] [5]"}, {two("rec", mix([]int{4, 2}, []int{3, -1}), wires(2)), "[[] []] [4]"}, {two("rec", mix([]int{9, 2}, []int{3, 1}), wires(2)), "[[] []] [1]"}, {two("rec", mix([]int{9, 2}, []int{3, 8}), two("par", delay(1), delay(1))), "[[] []] [7]"},
		// Crossing in the second Kid alone.
		{two("rec", mix([]int{0, -1, 0}, []int{-1, 0, 7}), mix([]int{-1, 3}, []int{2, -1})), "[[0] [2]] [5]"}, {two("rec", mix([]int{0, -1, -1}, []int{-1, 0, 7}), mix([]int{-1, 3}, []int{-1, -1})), "[[10] [7]] [-1]"},
		// The second Kid has more ins than outs, and fewer.
		{two("rec", mix([]int{0, 0}, []int{-1, 0}), mix([]int{4, 3})), "[[0] [0]] [4]"}, {two("rec", mix([]int{-1, 0}, []int{0, 0}), mix([]int{4, 3})), "[[0] [0]] [3]"}, {two("rec", mix([]int{-1, 2, 0}), mix([]int{4}, []int{3})), "[[0]] [5]"}, {two("rec", mix([]int{0, 2, 0}), mix([]int{4}, []int{3})), "[[0]] [4]"},
	})
}

// P7.1: recs within recs and parts, each told by itself: kids ahead of the whole, from the left.
func TestLoops(t *testing.T) {
	tryTexts(t, [][2]string{
		{"wire", "[[0]] []"}, {"(par (delay 1) (gate (up 2 wire)))", "[[1 -1 -1] [-1 0 0]] []"},
		{"(par (rec add (delay 1)) (rec add (delay 2)))", "[[0 -1] [-1 0]] [1 2]"}, {"(seq (rec add (delay 3)) (rec add (delay 2)))", "[[0]] [3 2]"}, {"(par (rec wire cut) (par (rec add (delay 2)) (rec wire (num 1))))", "[[0 -1] [-1 0] [-1 -1]] [-1 2 -1]"},
		{"(rec (rec (merge (par wire (par wire wire)) wire) (delay 2)) (delay 3))", "[[0]] [2 3]"}, {"(rec (rec (store 0) (delay 2)) (delay 3))", "[[0]] [3 4]"},
		{"(rec add (seq (delay 4) (rec add (delay 1))))", "[[0]] [1 4]"}, {"(rec add (rec (seq add (delay 5)) (delay 1)))", "[[0]] [6 5]"},
		{"(rec (rec pick (delay 7)) (rec (vary 9 9) wire))", "around [] [0]"}, {"(rec (rec pick (delay 7)) (seq (delay 1) (rec (vary 9 9) wire)))", "[[0]] [7 9 1]"}, {"(rec (seq (rec pick (delay 7)) (rec add (delay 6))) (rec (seq add (delay 5)) (delay 4)))", "[[0]] [7 6 9 5]"},
		{"(up 1 (rec add (delay 1)))", "[[0]] [1]"}, {"(up 3 (rec add (delay 1)))", "[[0]] [1]"}, {"(gate (rec add (delay 1)))", "[[0 0]] [1]"}, {"(reset (rec (seq add (delay 2)) (delay 1)))", "[[0 2]] [3]"},
		// A rec's samples are its part's own.
		{"(down 3 (rec add (delay 2)))", "[[0]] [2]"}, {"(down 3 (rec (seq add (delay 4)) (delay 2)))", "[[12]] [6]"}, {"(rec add (down 3 (delay 2)))", "[[0]] [6]"}, {"(rec add (down 3 (rec (delay 2) wire)))", "[[0]] [2 -1]"}, {"(rec add (down 3 (seq (delay 1) (rec add (delay 2)))))", "[[0]] [2 3]"},
		// Parts that are no delay, whatever they delay.
		{"(rec add (up 1 (delay 2)))", "[[0]] [2]"}, {"(rec add (up 2 (delay 2)))", "around [] [0]"}, {"(rec add (up 2 (par cut (num 1))))", "around [] [0]"}, {"(rec add (seq (up 2 (delay 2)) (delay 1)))", "[[0]] [1]"}, {"(rec (split add (par wire wire)) (gate (delay 2)))", "around [] [0]"}, {"(rec (split add (par (delay 1) wire)) (reset (delay 2)))", "[[1] [0]] [1]"}, {"(rec (split add (par (delay 5) wire)) (reset (delay 2)))", "[[5] [0]] [2]"},
		{"(rec (up 2 (par (delay 2) (delay 2))) (delay 1))", "[[0] [0]] [1]"}, {"(rec (gate (delay 2)) (delay 1))", "[[2]] [1]"}, {"(rec (gate (delay 2)) wire)", "around [] [0]"}, {"(rec (down 2 (vary 2 2)) wire)", "[[0]] [4]"},
	})
	// 64 recs side by side, then 64 others.
	var l []api.Block
	var want []int
	for n := range 128 {
		l = append(l, two("rec", leaf("add"), delay(1+n)))
		want = append(want, 1+n)
	}
	var rows [][]int
	for k := range 64 {
		rows = append(rows, slices.Repeat([]int{-1}, 64))
		rows[k][k] = 0
	}
	try(t, []told{{two("seq", balanced("par", l[:64]...), balanced("par", l[64:]...)), traced(rows, want)}})
	// 50 recs around one another, each of which feeds an in.
	b := two("merge", wires(51), wire())
	want = nil
	for n := range 50 {
		b = two("rec", b, delay(4096-n))
		want = append(want, 4096-n)
	}
	try(t, []told{{b, traced([][]int{{0}}, want)}, {two("rec", b, wire()), looped(nil, []int{0})}})
}

// ringed returns a rec of so many outs, each of which leads to others at once: pairs of digits, from and to; all other ways have a delay.
func ringed(outs int, pairs string) api.Block {
	rows := make([][]int, outs)
	for k := range rows {
		rows[k] = slices.Repeat([]int{1}, outs)
	}
	for _, pair := range strings.Fields(pairs) {
		rows[pair[1]-'0'][pair[0]-'0'] = 0
	}
	return two("rec", mix(rows...), wires(outs))
}

// P7.1: the loop without a delay that passes the fewest outs, then whose numbers are least.
func TestShortestLoops(t *testing.T) {
	for _, c := range []struct {
		outs  int
		pairs string
		want  []int
	}{
		{1, "00", []int{0}}, {3, "00", []int{0}}, {3, "11", []int{1}}, {3, "22", []int{2}}, {3, "22 11", []int{1}}, {3, "22 00", []int{0}}, {3, "00 11 22", []int{0}},
		{2, "01 10", []int{0, 1}}, {3, "21 12", []int{1, 2}}, {4, "03 30", []int{0, 3}}, {4, "03 30 02 20", []int{0, 2}}, {4, "03 30 12 21", []int{0, 3}}, {4, "23 32 13 31", []int{1, 3}}, {4, "23 32 12 21 13 31", []int{1, 2}},
		// Fewer outs are ahead of lesser numbers.
		{3, "01 10 22", []int{2}}, {4, "01 12 20 33", []int{3}}, {4, "01 12 20 23 32", []int{2, 3}}, {5, "01 12 23 30 34 42", []int{2, 3, 4}}, {3, "01 12 20 01 10", []int{0, 1}},
		// The way that signals go, from its least out on.
		{3, "01 12 20", []int{0, 1, 2}}, {3, "02 21 10", []int{0, 2, 1}}, {4, "31 12 23", []int{1, 2, 3}}, {4, "21 13 32", []int{1, 3, 2}}, {3, "01 12 20 02 21", []int{0, 2}}, {4, "30 02 21 13", []int{0, 2, 1, 3}},
		{4, "01 12 23 30", []int{0, 1, 2, 3}}, {4, "03 32 21 10", []int{0, 3, 2, 1}}, {4, "03 31 12 20", []int{0, 3, 1, 2}},
		// The first number that is less decides.
		{5, "01 13 30 04 42 20", []int{0, 1, 3}}, {5, "04 41 10 01 13 30", []int{0, 1}}, {5, "03 31 10 02 24 40", []int{0, 2, 4}}, {5, "01 14 40 13 30", []int{0, 1, 3}}, {5, "01 12 20 14 40", []int{0, 1, 2}}, {5, "12 24 41 03 34 40", []int{0, 3, 4}}, {5, "12 23 31 14 43", []int{1, 2, 3}},
		{6, "01 12 25 50 02 23 34 40", []int{0, 2, 5}}, {6, "03 32 25 50 04 41 15", []int{0, 3, 2, 5}}, {6, "03 35 50 04 41 10", []int{0, 3, 5}}, {6, "05 51 10 04 42 20", []int{0, 4, 2}},
		// A lesser number that leads to nothing, or too far around.
		{5, "01 12 23 02 24 40", []int{0, 2, 4}}, {5, "01 12 23 34 40 02", []int{0, 2, 3, 4}}, {4, "01 02 23 30", []int{0, 2, 3}}, {6, "01 12 23 30 04 45 50", []int{0, 4, 5}},
		// Loops that pass lesser outs than the one that they begin with.
		{4, "10 01 23 32", []int{0, 1}}, {5, "20 04 42 12 21", []int{1, 2}},
	} {
		try(t, []told{{ringed(c.outs, c.pairs), looped(nil, c.want)}})
	}
	for outs := 1; outs < 6; outs++ {
		b := ringed(outs, "")
		if got := tell(t, b); !strings.HasSuffix(got, " [1]") {
			t.Errorf("%s: got %s", dump(b), got)
		}
	}
	// Through outs that are taken alone, and through either Kid.
	try(t, []told{
		{two("rec", mix([]int{1, 0}, []int{0, 1}, []int{0, 0}), mix([]int{0, 1, -1}, []int{1, 0, -1})), looped(nil, []int{0, 1})},
		{two("rec", mix([]int{-1, -1}, []int{-1, -1}, []int{0, -1}), mix([]int{-1, -1, 0})), looped(nil, []int{2})},
		{two("rec", mix([]int{-1, -1}, []int{-1, -1}, []int{0, -1}), mix([]int{0, 0})), traced([][]int{{-1}, {-1}, {-1}}, []int{-1})},
		{two("rec", wires(3), mix([]int{1, 1, 0}, []int{0, 1, 1}, []int{1, 0, 1})), looped(nil, []int{0, 1, 2})},
		{two("rec", wires(3), mix([]int{1, 0, 1}, []int{1, 1, 0}, []int{0, 1, 1})), looped(nil, []int{0, 2, 1})},
		{two("rec", wires(3), mix([]int{1, 1, 1}, []int{1, 0, 1}, []int{1, 1, 1})), looped(nil, []int{1})},
		{two("rec", mix([]int{-1, 0, -1}, []int{-1, -1, 0}, []int{0, -1, -1}), mix([]int{-1, -1, 0}, []int{0, -1, -1}, []int{-1, 0, -1})), looped(nil, []int{0})},
	})
}

// ring returns a rec of n outs, at most 32, each of which leads to the next one alone, around; each way has this delay.
func ring(n, samples int) api.Block {
	last := append(copies(n-1, cut()), wire())
	others := append(copies(n-1, wire()), cut())
	return two("rec", two("split", wires(n), balanced("par", append(last, others...)...)), balanced("par", copies(n, delay(samples))...))
}

// P7.1: loops through many outs.
func TestLongLoops(t *testing.T) {
	for n := 1; n <= 32; n++ {
		var outs []int
		for out := range n {
			outs = append(outs, out)
		}
		rows := make([][]int, n)
		try(t, []told{{ring(n, 0), looped(nil, outs)}, {ring(n, 3), traced(rows, []int{3 * n})}})
	}
	// As many outs as there may be.
	try(t, []told{
		{two("rec", wires(64), wires(64)), looped(nil, []int{0})},
		{two("rec", wires(64), balanced("par", append(copies(63, delay(1)), wire())...)), looped(nil, []int{63})},
		{two("rec", wires(64), balanced("par", append(copies(63, delay(2)), delay(1))...)), traced(make([][]int, 64), []int{1})},
		{two("rec", wires(64), balanced("par", append(copies(32, delay(1)), balanced("par", copies(32, wire())...))...)), looped(nil, []int{32})},
	})
	// The last out leads to the one ahead of it, and so on.
	var rows [][]int
	for out := range 64 {
		rows = append(rows, []int{3 * (63 - out)})
	}
	try(t, []told{{two("rec", wires(64), two("par", cut(), balanced("par", copies(63, delay(3))...))), traced(rows, []int{-1})}})
}

// P7.1: the first rec that has a loop without a delay: kids ahead of the whole, from the left.
func TestFirstLoop(t *testing.T) {
	tryTexts(t, [][2]string{
		{"(rec wire wire)", "around [] [0]"}, {"(rec add (rec add wire))", "around [1] [0]"}, {"(rec (rec pick wire) (delay 1))", "around [0] [0]"}, {"(rec (rec pick wire) wire)", "around [0] [0]"}, {"(rec (rec pick (delay 1)) wire)", "around [] [0]"}, {"(rec add (rec add (delay 1)))", "around [] [0]"},
		{"(rec (rec pick wire) (rec add wire))", "around [0] [0]"}, {"(rec (rec pick (delay 1)) (rec add wire))", "around [1] [0]"}, {"(rec (rec (rec (store 0) (delay 1)) wire) wire)", "around [] [0]"}, {"(rec (rec (rec (store 0) (delay 1)) wire) (delay 1))", "[[]] [2 1 1]"},
		{"(par (rec wire wire) (rec wire wire))", "around [0] [0]"}, {"(par (rec (delay 1) wire) (rec wire wire))", "around [1] [0]"}, {"(par (rec wire wire) (rec (delay 1) wire))", "around [0] [0]"},
		{"(seq (par (rec add (delay 1)) (rec add wire)) (rec pick (rec add wire)))", "around [0 1] [0]"}, {"(seq (par (rec add (delay 1)) (rec add (delay 1))) (rec pick (rec add wire)))", "around [1 1] [0]"},
		{"(seq (seq (rec add (delay 1)) (rec add wire)) (rec add (rec add wire)))", "around [0 1] [0]"}, {"(seq (seq (rec add (delay 1)) (rec add (delay 1))) (rec add (rec add wire)))", "around [1 1] [0]"},
		// A deeper one on the right is behind one on the left; a deeper one below is ahead.
		{"(par (rec wire wire) (gate (gate (rec wire wire))))", "around [0] [0]"}, {"(par (gate (gate (rec wire wire))) (rec wire wire))", "around [0 0 0] [0]"}, {"(rec (seq (par (delay 1) wire) (seq add (rec add wire))) wire)", "around [0 1 1] [0]"},
		{"(up 1 (rec wire wire))", "around [0] [0]"}, {"(up 2 (rec wire wire))", "around [0] [0]"}, {"(down 2 (rec wire wire))", "around [0] [0]"}, {"(reset (down 2 (rec wire wire)))", "around [0 0] [0]"}, {"(split (num 1) (merge (par wire (rec wire wire)) wire))", "around [1 0 1] [0]"},
		// Its outs are its own, not those of recs in it.
		{"(rec (par (delay 1) (rec add (delay 1))) (par wire wire))", "around [] [1]"}, {"(rec (par (delay 1) (rec add wire)) (par wire wire))", "around [0 1] [0]"}, {"(rec (par (rec add wire) wire) (par wire wire))", "around [0 0] [0]"},
	})
	// One at each place of a row.
	for at := range 32 {
		l := copies(32, two("rec", leaf("add"), delay(1)))
		l[at] = two("rec", leaf("add"), wire())
		b := balanced("par", l...)
		place := []int{at >> 4 & 1, at >> 3 & 1, at >> 2 & 1, at >> 1 & 1, at & 1}
		try(t, []told{{b, looped(place, []int{0})}})
		if at < 31 {
			b = copied(b)
			*pointer(&b, []int{1, 1, 1, 1, 1}) = l[at]
			try(t, []told{{b, looped(place, []int{0})}})
		}
	}
	try(t, []told{{nested(57, two("rec", wire(), wire())), looped(make([]int, 57), []int{0})}})
}

// P7.1: the errors of Ports, ahead of loops without a delay.
func TestErrors(t *testing.T) {
	around := two("rec", wire(), wire())
	knob := func(path string, hi int64) api.Block {
		return api.Block{Op: "knob", Name: path, Nums: []api.Q{{D: 1}, {D: 1}, {N: hi, D: 1}, {D: 1}}}
	}
	for _, c := range []struct {
		b   api.Block
		err api.Errno
	}{
		{api.Block{}, api.ErrArg}, {leaf("what"), api.ErrArg}, {leaf("num"), api.ErrArg}, {leaf("rec"), api.ErrArg}, {one("rec", wire()), api.ErrArg}, {delay(-1), api.ErrArg}, {delay(api.MaxDelay + 1), api.ErrArg}, {api.Block{Op: "vary", N: 2, M: 1}, api.ErrArg}, {api.Block{Op: "num", Nums: []api.Q{{N: 2, D: 4}}}, api.ErrArg}, {leaf("fit"), api.ErrArg}, {turned("up", 0, wire()), api.ErrArg}, {turned("down", 9, wire()), api.ErrArg}, {turned("down", -1, wire()), api.ErrArg}, {one("gate", delay(-5)), api.ErrArg}, {api.Block{Op: "wire", Kids: copies(2, wire())}, api.ErrArg}, {api.Block{Op: "rec", Kids: copies(3, wire())}, api.ErrArg}, {api.Block{Op: "rec", N: 1, Kids: copies(2, wire())}, api.ErrArg}, {show("a b"), api.ErrArg}, {leaf("store"), api.ErrArg},
		{nested(60, wire()), api.ErrLimit}, {slow(60, delay(1)), api.ErrLimit}, {balanced("seq", copies(301, wire())...), api.ErrLimit}, {wires(65), api.ErrLimit}, {one("gate", wires(64)), api.ErrLimit},
		{two("seq", cut(), wire()), api.ErrPorts}, {two("rec", wire(), leaf("add")), api.ErrPorts}, {two("rec", num(), wire()), api.ErrPorts}, {two("split", cut(), wire()), api.ErrPorts}, {two("merge", wires(3), leaf("add")), api.ErrPorts},
		{two("par", show("a"), show("a")), api.ErrTwice}, {two("par", knob("a", 1), show("a")), api.ErrTwice}, {two("par", knob("a", 1), knob("a", 2)), api.ErrTwice}, {two("rec", show("a"), show("a")), api.ErrTwice},
	} {
		// By itself, beside a loop without a delay, and within one.
		for _, b := range []api.Block{c.b, two("par", around, c.b), two("par", c.b, around), two("rec", two("par", wire(), c.b), wire()), one("gate", two("par", around, c.b))} {
			try(t, []told{{b, refused(c.err)}})
		}
	}
	try(t, []told{{around, looped(nil, []int{0})}, {two("par", around, show("a")), looped([]int{0}, []int{0})}, {two("par", knob("a", 1), knob("a", 1)), "[[] []] []"}})
}

// The chapter's examples, and DOC.md's of loops.
func TestExamples(t *testing.T) {
	tryTexts(t, [][2]string{
		{"(rec add wire)", "around [] [0]"}, {"(rec add (delay 1))", "[[0]] [1]"}, {"(down 2 (delay 3))", "[[6]] []"}, {"(up 2 (delay 3))", "[[0]] []"},
		{"(rec (split (par wire wire) (par (par cut wire) (par wire cut))) (par wire wire))", "around [] [0 1]"},
		{"(rec wire (seq (par wire (num 1/2)) mul))", "around [] [0]"}, {"(rec add (seq (delay 1) (seq (par wire (num 1/2)) mul)))", "[[0]] [1]"},
	})
}
