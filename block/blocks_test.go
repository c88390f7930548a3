package block_test

import (
	"math"
	"math/big"
	"slices"
	"strings"

	"serinette/api"
	"serinette/block"
)

// none is none itself.
var none = api.Q{}

// q returns n / d, reduced by the tests themselves.
func q(n, d int64) api.Q { return fromRat(big.NewRat(n, d)) }

// fromRat returns an exact number, which must be one.
func fromRat(r *big.Rat) api.Q {
	limit := big.NewInt(api.MaxNum)
	if r.Num().CmpAbs(limit) > 0 || r.Denom().Cmp(limit) > 0 {
		panic("no number in a test: " + r.String())
	}
	return api.Q{N: r.Num().Int64(), D: r.Denom().Int64()}
}

// qs returns whole numbers.
func qs(l ...int64) []api.Q {
	var r []api.Q
	for _, n := range l {
		r = append(r, q(n, 1))
	}
	return r
}

// notNumbers returns Qs that count as none, but are none of the valid ones.
func notNumbers() []api.Q {
	return []api.Q{
		{N: 2, D: 4}, {N: 0, D: 2}, {N: 2, D: 2}, {N: -3, D: 6}, {N: 1, D: 0}, {N: -1, D: 0}, {N: 0, D: -1}, {N: 1, D: -1}, {N: -1, D: -2},
		{N: api.MaxNum + 1, D: 1}, {N: -api.MaxNum - 1, D: 1}, {N: 1, D: api.MaxNum + 1},
		{N: math.MinInt64, D: 1}, {N: math.MaxInt64, D: 1}, {N: 1, D: math.MaxInt64}, {N: math.MinInt64, D: math.MinInt64},
	}
}

func num(n, d int64) api.Block { return numbered("num", q(n, d)) }

func leaf(op string) api.Block { return api.Block{Op: op} }

func wire() api.Block { return leaf("wire") }

func cut() api.Block { return leaf("cut") }

func two(op string, a, b api.Block) api.Block { return api.Block{Op: op, Kids: []api.Block{a, b}} }

func one(op string, a api.Block) api.Block { return api.Block{Op: op, Kids: []api.Block{a}} }

func turned(op string, n int, a api.Block) api.Block {
	return api.Block{Op: op, N: n, Kids: []api.Block{a}}
}

func delay(n int) api.Block { return api.Block{Op: "delay", N: n} }

func vary(n, m int) api.Block { return api.Block{Op: "vary", N: n, M: m} }

func numbered(op string, l ...api.Q) api.Block { return api.Block{Op: op, Nums: l} }

func fit(f api.Format) api.Block { return api.Block{Op: "fit", Format: f} }

func show(path string) api.Block { return api.Block{Op: "show", Name: path} }

func knob(path string, first, lo, hi, step api.Q) api.Block {
	return api.Block{Op: "knob", Name: path, Nums: []api.Q{first, lo, hi, step}}
}

// control returns a knob with common numbers.
func control(path string) api.Block { return knob(path, q(1, 1), q(0, 1), q(2, 1), q(1, 10)) }

func format(kind string, i, f int, round, over string) api.Format {
	return api.Format{Kind: kind, I: i, F: f, Round: round, Over: over}
}

// plainOps returns the ops that have no fields and no Kids.
func plainOps() []string {
	return strings.Fields("wire cut neg abs floor round frac not add sub mul div mod min max lt le eq ne and or xor shl shr pick")
}

// joints returns the ops that have two Kids.
func joints() []string { return strings.Fields("par seq split merge rec") }

// samples returns valid blocks of each op, whose ports fit.
func samples() []api.Block {
	near := format("fix", 1, 2, "near", "sat")
	l := []api.Block{
		num(1, 2), num(-api.MaxNum, 1), num(1, api.MaxNum), numbered("num", none), fit(near), fit(format("float", 2, 1, "zero", "none")), delay(0), delay(1), delay(api.MaxDelay),
		vary(0, 0), vary(0, 5), vary(3, 3), vary(0, api.MaxDelay), vary(api.MaxDelay, api.MaxDelay),
		control("a/gain"), knob("0", q(-1, 2), q(-1, 2), q(-1, 2), q(0, 1)), show("a/level"), show("-_/"),
		turned("up", 1, wire()), turned("up", api.MaxTurns, wire()), turned("down", 1, wire()), turned("down", api.MaxTurns, wire()), one("gate", wire()), one("reset", wire()), two("par", wire(), num(1, 1)), two("rec", leaf("add"), delay(1)),
	}
	for _, op := range []string{"table", "store", "wave"} {
		l = append(l, numbered(op, q(0, 1)), numbered(op, none), numbered(op, q(1, 2), none, q(-3, 1)), numbered(op, slices.Repeat(qs(7), api.MaxTable)...))
	}
	for _, op := range plainOps() {
		l = append(l, leaf(op))
	}
	for _, op := range joints() {
		l = append(l, two(op, wire(), wire()))
	}
	return l
}

// balanced returns what an op makes of all, little deep.
func balanced(op string, l ...api.Block) api.Block {
	if len(l) == 1 {
		return l[0]
	}
	half := len(l) / 2
	return two(op, balanced(op, l[:half]...), balanced(op, l[half:]...))
}

// copies returns n of one block.
func copies(n int, b api.Block) []api.Block { return slices.Repeat([]api.Block{b}, n) }

// box returns a block with these ports.
func box(ins, outs int) api.Block {
	both := min(ins, outs)
	l := append(copies(both, wire()), copies(ins-both, cut())...)
	l = append(l, copies(outs-both, num(1, 1))...)
	if len(l) == 0 {
		return two("seq", num(1, 1), cut())
	}
	return balanced("par", l...)
}

// nested returns b with so many blocks around it that change no ports.
func nested(n int, b api.Block) api.Block {
	for range n {
		b = turned("up", 1, b)
	}
	return b
}

// places returns the places of all blocks of b, a block ahead of its Kids.
func places(b api.Block) [][]int {
	l := [][]int{{}}
	for k, kid := range b.Kids {
		for _, place := range places(kid) {
			l = append(l, append([]int{k}, place...))
		}
	}
	return l
}

// pointer returns the block at a place that is there.
func pointer(b *api.Block, place []int) *api.Block {
	for _, k := range place {
		b = &b.Kids[k]
	}
	return b
}

// copied returns a block that shares no memory with b.
func copied(b api.Block) api.Block {
	b.Nums = slices.Clone(b.Nums)
	b.Kids = slices.Clone(b.Kids)
	for i, kid := range b.Kids {
		b.Kids[i] = copied(kid)
	}
	return b
}

// scrambled changes all memory of b.
func scrambled(b *api.Block) {
	for i := range b.Nums {
		b.Nums[i] = q(99, 1)
	}
	for i := range b.Kids {
		scrambled(&b.Kids[i])
		b.Kids[i] = leaf("scrambled")
	}
}

// same tells whether a and b are the same in all fields; an empty list is as a nil one.
func same(a, b api.Block) bool {
	return a.Op == b.Op && a.Name == b.Name && a.N == b.N && a.M == b.M && a.Format == b.Format && slices.Equal(a.Nums, b.Nums) && slices.EqualFunc(a.Kids, b.Kids, same)
}

// isNothing tells whether b is the zero Block.
func isNothing(b api.Block) bool { return same(b, api.Block{}) }

// tester is what is used of a testing.T.
type tester interface {
	Helper()
	Errorf(format string, l ...any)
}

// wantPorts tries the ports of a block that has some.
func wantPorts(t tester, b api.Block, ins, outs int) {
	t.Helper()
	if i, o, err := block.Ports(b); i != ins || o != outs || err != api.OK {
		t.Errorf("Ports of %.200s: got %d, %d, %v, want %d, %d", dump(b), i, o, err, ins, outs)
	}
}

// wantRefused tries a block that Ports refuses, and so Knobs and Shows do.
func wantRefused(t tester, b api.Block, want api.Errno) {
	t.Helper()
	if i, o, err := block.Ports(b); i != 0 || o != 0 || err != want {
		t.Errorf("Ports of %.200s: got %d, %d, %v, want %v", dump(b), i, o, err, want)
	}
	if l, err := block.Knobs(b); len(l) > 0 || err != want {
		t.Errorf("Knobs of %.200s: got %v, %v, want %v", dump(b), l, err, want)
	}
	if l, err := block.Shows(b); len(l) > 0 || err != want {
		t.Errorf("Shows of %.200s: got %v, %v, want %v", dump(b), l, err, want)
	}
}

// wantNotValid tries a block that is not valid.
func wantNotValid(t tester, b api.Block) {
	t.Helper()
	wantRefused(t, b, api.ErrArg)
	if s, err := block.Text(b); s != "" || err != api.ErrArg {
		t.Errorf("Text of %.200s: got %q, %v, want ErrArg", dump(b), s, err)
	}
}

// wantNowhereValid tries a block that is not valid, by itself and below others.
func wantNowhereValid(t tester, b api.Block) {
	t.Helper()
	wantNotValid(t, b)
	for _, op := range joints() {
		wantNotValid(t, two(op, b, wire()))
		wantNotValid(t, two(op, wire(), b))
	}
	for _, op := range []string{"gate", "reset"} {
		wantNotValid(t, one(op, b))
	}
	wantNotValid(t, turned("up", 1, b))
	wantNotValid(t, turned("down", 1, two("par", cut(), b)))
}

// wantValid tries a block that is valid, whatever its ports.
func wantValid(t tester, b api.Block) {
	t.Helper()
	if _, _, err := block.Ports(b); err == api.ErrArg {
		t.Errorf("Ports of %.200s: ErrArg", dump(b))
	}
	if _, err := block.Text(b); err != api.OK {
		t.Errorf("Text of %.200s: %v", dump(b), err)
	}
}
