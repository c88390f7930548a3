package mean_test

import "testing"

// P8.1: up runs several samples of its own at each one.
func TestUp(t *testing.T) {
	const acc = "(rec add (delay 1))"
	runs(t, [][3]string{
		{"(up 1 " + acc + ")", "1 1 none 1", "1 2 none none"}, {"(up 2 " + acc + ")", "1 0 3", "2 2 8"}, {"(up 3 " + acc + ")", "1 0 2", "3 3 9"}, {"(up 8 " + acc + ")", "1 1", "8 16"},
		{"(up 2 wire)", "1 none ? 2", "1 none none 2"}, {"(up 2 (delay 1))", "1 2 3", "1 2 3"}, {"(up 2 (delay 2))", "1 2 3", "0 1 2"}, {"(up 2 (delay 3))", "1 2 3", "0 1 2"}, {"(up 2 (wave 1 2 3))", "", "2 1 3 2"},
		{"(up 2 (par " + acc + " neg))", "1 1 | 5 6", "2 4 | -5 -6"}, {"(up 2 (par cut (num 4)))", "1 2", "4 4"},
		{"(up 2 (store 0 7))", "0 none | 5 6 | 0 1", "5 7"}, {"(up 2 (store 0 7))", "0 1 none | 5 6 9 | 1 1 0", "7 6 5"},
		{"(up 2 (up 3 " + acc + "))", "1 0 1", "6 6 12"}, {"(up 2 (par (up 2 " + acc + ") " + acc + "))", "1 1 | 1 1", "4 8 | 2 4"},
	})
}

// P8.1: down runs one sample of its own at the first of each so many.
func TestDown(t *testing.T) {
	const acc = "(rec add (delay 1))"
	runs(t, [][3]string{
		{"(down 1 " + acc + ")", "1 1 none", "1 2 none"}, {"(down 2 " + acc + ")", "1 5 7 9 2", "1 1 8 8 10"}, {"(down 3 wire)", "1 2 3 4 5 6 7", "1 1 1 4 4 4 7"}, {"(down 2 wire)", "none 1 2 3", "none none 2 2"}, {"(down 8 wire)", "1 2 3 4 5 6 7 8 9 10", "1 1 1 1 1 1 1 1 9 9"},
		{"(down 2 (delay 1))", "1 2 3 4 5 6", "0 0 1 1 3 3"}, {"(down 2 (wave 1 2 3))", "", "1 1 2 2 3 3 1"}, {"(down 2 (par wire neg))", "1 2 3 | 4 5 6", "1 1 3 | -4 -4 -6"}, {"(down 2 (store 0))", "0 none none none none | 5 6 7 8 9 | 0 0 0 0 0", "0 0 5 5 5"},
		{"(down 2 (down 2 wire))", "1 2 3 4 5 6 7 8 9", "1 1 1 1 5 5 5 5 9"}, {"(down 2 (down 3 wire))", "1 2 3 4 5 6 7", "1 1 1 1 1 1 7"},
		{"(up 2 (down 2 " + acc + "))", "1 2 3", "1 3 6"}, {"(up 3 (down 2 " + acc + "))", "1 2 3", "2 4 10"}, {"(down 2 (up 3 " + acc + "))", "1 9 2 9 3", "3 3 9 9 18"},
	})
}

// P8.1: gate runs one sample of its own where a number other than 0 comes in first.
func TestGate(t *testing.T) {
	runs(t, [][3]string{
		{"(gate wire)", "none ? 0 1 0 -1/2 none ? 2 | 1 2 3 4 5 6 7 8 9", "0 0 0 4 4 6 6 6 9"}, {"(gate wire)", "1 0 | none 5", "none none"},
		{"(gate (wave 1 2 3))", "0 1 0 1 1 none 1", "0 1 1 2 3 3 1"}, {"(gate (delay 1))", "1 0 1 0 1 | 1 2 3 4 5", "0 0 1 1 3"}, {"(gate (par wire neg))", "0 1 0 | 1 2 3 | 4 5 6", "0 2 2 | 0 -5 -5"}, {"(gate (num 5))", "0 1 0", "0 5 5"},
		{"(gate (rec add (delay 1)))", "0 1 0 1 | 1 2 3 4", "0 2 2 6"}, {"(gate (vary 0 2))", "1 0 1 1 | 1 2 3 4 | 0 0 1 2", "1 1 1 1"}, {"(gate (store 0))", "0 1 0 1 | 0 0 0 none | 5 6 7 8 | 0 0 0 0", "0 0 0 6"},
		{"(gate (gate wire))", "1 1 0 1 1 | 1 0 1 1 0 | 5 6 7 8 9", "5 5 5 8 8"}, {"(gate (down 2 wire))", "0 1 1 0 1 1 | 1 2 3 4 5 6", "0 2 2 2 5 5"}, {"(down 2 (gate wire))", "1 0 0 1 1 | 1 2 3 4 5", "1 1 1 1 5"},
		{"(gate (up 2 (rec add (delay 1))))", "0 1 0 1 | 1 1 1 1", "0 2 2 4"}, {"(up 2 (gate (rec add (delay 1))))", "0 1 0 1 | 1 1 1 1", "0 2 2 4"},
	})
}

// P8.1: reset goes back to the beginning where a number other than 0 comes in first, and then runs.
func TestReset(t *testing.T) {
	const acc = "(rec add (delay 1))"
	runs(t, [][3]string{
		{"(reset " + acc + ")", "0 0 1 0 none ? 1/2 | 1 1 1 1 1 1 1", "1 2 1 2 3 4 1"}, {"(reset " + acc + ")", "1 0 0 | 1 1 1", "1 2 3"}, {"(reset " + acc + ")", "1 1 -1 | 1 2 3", "1 2 3"}, {"(reset " + acc + ")", "none 0 1 | none 2 3", "none none 3"},
		{"(reset (wave 1 2 3))", "0 0 1 0 0 0", "1 2 1 2 3 1"}, {"(reset (delay 1))", "0 0 1 0 0 | 1 2 3 4 5", "0 1 0 3 4"}, {"(reset (delay 3))", "0 0 0 0 1 0 0 0 0 | 1 2 3 4 5 6 7 8 9", "0 0 0 1 0 0 0 5 6"}, {"(reset (vary 0 2))", "0 0 1 0 0 | 1 2 3 4 5 | 0 1 1 1 2", "1 1 0 3 3"},
		{"(reset (store 5 6))", "0 0 1 0 | 0 none none none | 9 9 9 9 | 0 0 0 1", "5 9 5 6"}, {"(reset (store 5))", "0 1 0 | 0 0 none | 8 9 9 | 0 0 0", "5 5 9"}, {"(reset (par wire neg))", "0 1 | 2 3 | 4 5", "2 3 | -4 -5"},
		{"(reset (down 2 wire))", "0 1 0 0 1 | 1 2 3 4 5", "1 2 2 4 5"}, {"(reset (gate wire))", "0 0 1 0 | 1 0 0 1 | 7 8 9 5", "7 7 0 5"}, {"(gate (reset " + acc + "))", "1 0 1 1 | 0 1 0 1 | 1 1 1 1", "1 1 2 1"},
		{"(reset (up 2 " + acc + "))", "0 0 1 0 | 1 1 1 1", "2 4 2 4"}, {"(up 2 (reset " + acc + "))", "0 1 0 | 1 1 1", "2 1 3"}, {"(down 2 (reset " + acc + "))", "0 1 0 0 1 | 1 1 1 1 1", "1 1 2 2 1"},
		{"(reset (reset " + acc + "))", "0 0 1 0 0 | 0 0 0 1 0 | 1 1 1 1 1", "1 2 1 1 2"}, {"(reset (gate (down 2 (up 2 " + acc + "))))", "0 0 0 1 0 0 | 1 1 1 0 1 1 | 1 1 1 1 1 1", "2 2 4 0 2 2"},
	})
}
