package ops_test

import (
	"slices"
	"strings"
	"testing"

	"serinette/api"
	"serinette/ops"
	"serinette/ratio"
)

// numbers reads numbers; `?` is a Q that is no number.
func numbers(t *testing.T, text string) []api.Q {
	t.Helper()
	var l []api.Q
	for _, word := range strings.Fields(text) {
		n, err := ratio.Parse(word)
		if word == "?" {
			n, err = api.Q{N: 2, D: 2}, api.OK
		}
		if err != api.OK {
			t.Fatalf("%q is no number: %v", word, err)
		}
		l = append(l, n)
	}
	return l
}

// P8.1: each op from neg to pick, also of numbers that are none.
func TestApply(t *testing.T) {
	for _, row := range [][3]string{
		{"neg", "1/2", "-1/2"}, {"neg", "-3", "3"}, {"neg", "none", "none"}, {"neg", "?", "none"},
		{"abs", "-1/2", "1/2"}, {"abs", "3", "3"}, {"abs", "none", "none"}, {"abs", "?", "none"},
		{"floor", "-1/2", "-1"}, {"floor", "7/2", "3"}, {"floor", "none", "none"}, {"floor", "?", "none"},
		{"round", "5/2", "2"}, {"round", "-3/2", "-2"}, {"round", "7/3", "2"}, {"round", "none", "none"}, {"round", "?", "none"},
		{"frac", "-1/4", "3/4"}, {"frac", "2", "0"}, {"frac", "none", "none"}, {"frac", "?", "none"},
		{"not", "0", "1"}, {"not", "1", "0"}, {"not", "-1/2", "0"}, {"not", "none", "none"}, {"not", "?", "none"},
		{"add", "1/2 1/3", "5/6"}, {"add", "1073741824 1", "none"}, {"sub", "1/2 1/3", "1/6"}, {"sub", "1 3", "-2"}, {"mul", "2/3 3/4", "1/2"}, {"mul", "32768 32768", "1073741824"}, {"mul", "32768 -65536", "none"}, {"div", "2/3 4", "1/6"}, {"div", "1 0", "none"}, {"mod", "-7 3", "2"}, {"mod", "7 -3", "-2"}, {"mod", "7 0", "none"},
		{"min", "2 -3", "-3"}, {"min", "-3 2", "-3"}, {"max", "2 -3", "2"}, {"max", "-3 2", "2"},
		{"lt", "1 2", "1"}, {"lt", "2 2", "0"}, {"le", "2 2", "1"}, {"le", "3 2", "0"}, {"eq", "1/2 0.5", "1"}, {"eq", "1 2", "0"}, {"ne", "1 2", "1"}, {"ne", "2 2", "0"},
		{"and", "6 3", "2"}, {"and", "-1 6", "6"}, {"or", "6 3", "7"}, {"xor", "6 3", "5"}, {"xor", "1/2 1", "none"}, {"shl", "3 2", "12"}, {"shl", "1 -1", "none"}, {"shr", "13 2", "3"}, {"shr", "-1 5", "-1"},
		{"pick", "0 5 6", "5"}, {"pick", "1 5 6", "6"}, {"pick", "-1/2 5 6", "6"}, {"pick", "none 5 6", "none"}, {"pick", "? 5 6", "none"}, {"pick", "0 none 6", "none"}, {"pick", "0 ? 6", "none"}, {"pick", "1 none 6", "6"}, {"pick", "1 ? 6", "6"}, {"pick", "0 5 none", "5"}, {"pick", "0 5 ?", "5"}, {"pick", "1 5 ?", "none"},
	} {
		ins := numbers(t, row[1])
		before := slices.Clone(ins)
		if got := ops.Apply(row[0], ins); !ratio.Valid(got) || ratio.Text(got) != row[2] {
			t.Errorf("%s of %s: got %v, want %s", row[0], row[1], got, row[2])
		}
		if !slices.Equal(ins, before) {
			t.Errorf("%s of %s: the ins are changed to %v", row[0], row[1], ins)
		}
	}
}

// P8.1: none in, none out, of each op with two ins.
func TestNoneOfTwo(t *testing.T) {
	for _, op := range strings.Fields("add sub mul div mod min max lt le eq ne and or xor shl shr") {
		if got := ops.Apply(op, numbers(t, "1 1")); !ratio.Is(got) {
			t.Errorf("%s of 1 1: got %v", op, got)
		}
		for _, ins := range []string{"none 1", "1 none", "none none", "? 1", "1 ?", "none 0", "0 none", "? ?"} {
			if got := ops.Apply(op, numbers(t, ins)); got != (api.Q{}) {
				t.Errorf("%s of %s: got %v", op, ins, got)
			}
		}
	}
}

// Ops that are none of these, and other numbers of ins: none.
func TestNoOps(t *testing.T) {
	arity := map[string]int{"neg": 1, "not": 1, "add": 2, "eq": 2, "and": 2, "pick": 3}
	for _, op := range strings.Fields("neg not add eq and pick wire cut num fit delay on what NEG") {
		for n, ins := range []string{"", "1", "1 1", "1 1 1", "1 1 1 1"} {
			isOp := n > 0 && arity[op] == n
			if got := ops.Apply(op, numbers(t, ins)); ratio.Is(got) != isOp || !ratio.Valid(got) {
				t.Errorf("%s of %q: got %v", op, ins, got)
			}
		}
	}
	if got := ops.Apply("", numbers(t, "1")); got != (api.Q{}) {
		t.Errorf("no op: got %v", got)
	}
}

// R4: what counts as none.
func TestCleanAndIsOn(t *testing.T) {
	for _, row := range []struct {
		n     api.Q
		clean api.Q
		isOn  bool
	}{
		{api.Q{D: 1}, api.Q{D: 1}, false}, {api.Q{N: 1, D: 1}, api.Q{N: 1, D: 1}, true}, {api.Q{N: -1, D: 2}, api.Q{N: -1, D: 2}, true},
		{api.Q{}, api.Q{}, false}, {api.Q{N: 2, D: 2}, api.Q{}, false}, {api.Q{N: 1}, api.Q{}, false}, {api.Q{N: 1, D: -1}, api.Q{}, false}, {api.Q{D: 2}, api.Q{}, false}, {api.Q{N: api.MaxNum + 1, D: 1}, api.Q{}, false}, {api.Q{N: 1, D: api.MaxNum + 1}, api.Q{}, false},
	} {
		if got := ops.Clean(row.n); got != row.clean {
			t.Errorf("Clean(%v): got %v", row.n, got)
		}
		if got := ops.IsOn(row.n); got != row.isOn {
			t.Errorf("IsOn(%v): got %v", row.n, got)
		}
	}
}
