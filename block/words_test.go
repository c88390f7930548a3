package block_test

import (
	"fmt"
	"math/big"
	"regexp"
	"slices"
	"strconv"
	"strings"

	"serinette/api"
)

// The chapter's table: op, ins, outs, fields.
const chapterTable = `
wire 1 1
cut 1 0
num 0 1 Nums
neg 1 1
abs 1 1
floor 1 1
round 1 1
frac 1 1
not 1 1
add 2 1
sub 2 1
mul 2 1
div 2 1
mod 2 1
min 2 1
max 2 1
lt 2 1
le 2 1
eq 2 1
ne 2 1
and 2 1
or 2 1
xor 2 1
shl 2 1
shr 2 1
pick 3 1
fit 1 1 Format
delay 1 1 N
vary 2 1 N M
table 1 1 Nums
store 3 1 Nums
wave 0 1 Nums
knob 0 1 Name Nums
show 1 1 Name
par - - Kids2
seq - - Kids2
split - - Kids2
merge - - Kids2
rec - - Kids2
up - - N Kids1
down - - N Kids1
gate - - Kids1
reset - - Kids1
`

// chapterRow is a row of it.
type chapterRow struct {
	ins, outs int
	fields    []string
}

// chapterRows has the rows by their ops.
var chapterRows = func() map[string]chapterRow {
	rows := map[string]chapterRow{}
	for _, line := range strings.Split(strings.TrimSpace(chapterTable), "\n") {
		row := strings.Fields(line)
		ins, _ := strconv.Atoi(row[1])
		outs, _ := strconv.Atoi(row[2])
		rows[row[0]] = chapterRow{ins, outs, row[3:]}
	}
	return rows
}()

// rowOf returns the chapter's row of an op.
func rowOf(op string) (ins, outs int, fields []string, ok bool) {
	row, ok := chapterRows[op]
	return row.ins, row.outs, row.fields, ok
}

// pathForm is what a path is like.
var pathForm = regexp.MustCompile(`\A[A-Za-z0-9_/-]{1,40}\z`)

// isLowest tells by the chapter's words whether v is a number.
func isLowest(v api.Q) bool {
	if v.D < 1 || v.D > api.MaxNum || v.N > api.MaxNum || v.N < -api.MaxNum {
		return false
	}
	r := big.NewRat(v.N, v.D)
	return r.Num().Int64() == v.N && r.Denom().Int64() == v.D
}

// isControl tells by the chapter's words whether these are the numbers of a knob.
func isControl(l []api.Q) bool {
	var r []*big.Rat
	for _, v := range l {
		if !isLowest(v) {
			return false
		}
		r = append(r, big.NewRat(v.N, v.D))
	}
	if len(l) != 4 || r[1].Cmp(r[0]) > 0 || r[0].Cmp(r[2]) > 0 || r[3].Sign() < 0 {
		return false
	}
	if r[3].Sign() == 0 {
		return true
	}
	a, b := r[1].Denom(), r[3].Denom()
	common := new(big.Int).Mul(a, b)
	common.Div(common, new(big.Int).GCD(nil, nil, a, b))
	greatest := big.NewRat(1, 1)
	for _, end := range r[1:3] {
		if size := new(big.Rat).Abs(end); size.Cmp(greatest) > 0 {
			greatest = size
		}
	}
	return new(big.Rat).Mul(new(big.Rat).SetInt(common), greatest).Cmp(big.NewRat(api.MaxNum, 1)) <= 0
}

// isFormat tells by chapter 2's words whether f is one.
func isFormat(f api.Format) bool {
	sizes := f.Kind == "fix" && f.I >= 0 && f.I <= 30 && f.F >= 0 && f.F <= 30 && f.I+f.F <= 30 || f.Kind == "float" && f.I >= 1 && f.I <= 24 && f.F >= 0 && f.F <= 20 && f.I+f.F <= 30
	return sizes && slices.Contains([]string{"floor", "near", "zero"}, f.Round) && (f.Over == "sat" || f.Over == "none" || f.Over == "wrap" && f.Kind == "fix")
}

// isValid tells by the chapter's words whether all blocks of b are valid.
func isValid(b api.Block) bool {
	_, _, fields, ok := rowOf(b.Op)
	if !ok {
		return false
	}
	has := func(field string) bool { return slices.Contains(fields, field) }
	if !has("N") && b.N != 0 || !has("M") && b.M != 0 || !has("Name") && b.Name != "" || !has("Nums") && len(b.Nums) > 0 || !has("Format") && b.Format != (api.Format{}) {
		return false
	}
	kids := map[bool]int{true: 2}[has("Kids2")] + map[bool]int{true: 1}[has("Kids1")]
	if len(b.Kids) != kids || has("Format") && !isFormat(b.Format) || has("Name") && !pathForm.MatchString(b.Name) {
		return false
	}
	for _, v := range b.Nums {
		if v != none && !isLowest(v) {
			return false
		}
	}
	switch {
	case b.Op == "num" && len(b.Nums) != 1, b.Op == "knob" && !isControl(b.Nums), has("Nums") && (len(b.Nums) < 1 || len(b.Nums) > 256):
		return false
	case b.Op == "delay" && (b.N < 0 || b.N > 4096), b.Op == "vary" && (b.N < 0 || b.M < b.N || b.M > 4096), has("Kids1") && has("N") && (b.N < 1 || b.N > 8):
		return false
	}
	for _, kid := range b.Kids {
		if !isValid(kid) {
			return false
		}
	}
	return true
}

// portsByWords returns by the chapter's words what Ports returns.
func portsByWords(b api.Block) (ins, outs int, err api.Errno) {
	if !isValid(b) {
		return 0, 0, api.ErrArg
	}
	deepest := 0
	all := places(b)
	for _, place := range all {
		deepest = max(deepest, len(place)+1)
	}
	if len(all) > 600 || deepest > 60 {
		return 0, 0, api.ErrLimit
	}
	if ins, outs, err = fitting(b); err != api.OK {
		return 0, 0, err
	}
	knobs, shows := map[string]string{}, map[string]int{}
	for _, place := range all {
		switch at := pointer(&b, place); at.Op {
		case "knob":
			nums := fmt.Sprint(at.Nums)
			if other, ok := knobs[at.Name]; ok && other != nums {
				return 0, 0, api.ErrTwice
			}
			knobs[at.Name] = nums
		case "show":
			shows[at.Name]++
		}
	}
	for path, often := range shows {
		if knobs[path] != "" || often > 1 {
			return 0, 0, api.ErrTwice
		}
	}
	return ins, outs, api.OK
}

// fitting returns by the chapter's words the ports of a valid block, or why there are none.
func fitting(b api.Block) (ins, outs int, err api.Errno) {
	ins, outs, _, _ = rowOf(b.Op)
	var i, o [2]int
	for k, kid := range b.Kids {
		if i[k], o[k], err = fitting(kid); err != api.OK {
			return 0, 0, err
		}
	}
	ok := true
	if len(b.Kids) > 0 {
		ins, outs, ok = composed(b.Op, i[0], o[0], i[1], o[1])
	}
	if !ok {
		return 0, 0, api.ErrPorts
	}
	if ins > 64 || outs > 64 {
		return 0, 0, api.ErrLimit
	}
	return ins, outs, api.OK
}

// composed returns by the chapter's words the ports of an op with Kids of these ports; false: they do not fit.
func composed(op string, aIns, aOuts, bIns, bOuts int) (ins, outs int, ok bool) {
	switch op {
	case "par":
		return aIns + bIns, aOuts + bOuts, true
	case "seq":
		return aIns, bOuts, aOuts == bIns
	case "split", "merge":
		few, many := aOuts, bIns
		if op == "merge" {
			few, many = bIns, aOuts
		}
		for k := 1; k <= 64; k++ {
			if few > 0 && few*k == many {
				return aIns, bOuts, true
			}
		}
		return 0, 0, false
	case "rec":
		return aIns - bOuts, aOuts, bIns <= aOuts && bOuts <= aIns
	case "up", "down":
		return aIns, aOuts, true
	}
	return aIns + 1, aOuts, true
}

// dump writes any block in a form of the tests' own.
func dump(b api.Block) string {
	s := b.Op
	if s == "" {
		s = "?"
	}
	if b.Name != "" {
		s += fmt.Sprintf(" %q", b.Name)
	}
	if b.N != 0 || b.M != 0 {
		s += fmt.Sprint(" ", b.N, ":", b.M)
	}
	if b.Format != (api.Format{}) {
		s += fmt.Sprint(" ", b.Format)
	}
	if len(b.Nums) > 0 {
		s += fmt.Sprint(" ", b.Nums)
	}
	if len(b.Kids) == 0 {
		return s
	}
	var kids []string
	for _, kid := range b.Kids {
		kids = append(kids, dump(kid))
	}
	return s + "{" + strings.Join(kids, "; ") + "}"
}

// chance is a row of numbers that look like drawn ones, the same each time.
type chance uint64

// of returns a number from 0 to n - 1.
func (c *chance) of(n int) int {
	*c = *c*6364136223846793005 + 1442695040888963407
	return int(uint64(*c) >> 33 % uint64(n))
}

// among returns one of a list.
func among[T any](c *chance, l ...T) T { return l[c.of(len(l))] }

// number returns a number, or none.
func (c *chance) number() api.Q {
	return among(c, none, q(0, 1), q(1, 1), q(-1, 1), q(12, 1), q(1, 2), q(-3, 4), q(-api.MaxNum, api.MaxNum-1), q(api.MaxNum, 1), q(1, api.MaxNum))
}

// path returns a path of a few.
func (c *chance) path() string {
	return among(c, "a", "b", "a/b", "A-1_", "/", strings.Repeat("z", api.MaxName))
}

// knob returns a knob whose numbers hang on its path, mostly.
func (c *chance) knob() api.Block {
	if c.of(6) == 0 {
		return control(c.path())
	}
	path := c.path()
	return knob(path, q(int64(len(path)), 1), q(-1, 3), q(50, 1), q(0, 1))
}

// leaf returns a valid block without Kids, often a wire.
func (c *chance) leaf() api.Block {
	switch c.of(12) {
	case 0:
		return numbered("num", c.number())
	case 1:
		return delay(among(c, 0, 1, 5, api.MaxDelay))
	case 2:
		return vary(c.of(5), 5+c.of(5))
	case 3:
		return numbered(among(c, "table", "store", "wave"), slices.Repeat([]api.Q{c.number()}, 1+c.of(4))...)
	case 4:
		return c.knob()
	case 5:
		return show(c.path())
	case 6:
		return fit(among(c, format("fix", 1, 2, "near", "sat"), format("fix", 30, 0, "floor", "wrap"), format("float", 2, 1, "zero", "none"), format("float", 10, 20, "near", "sat")))
	case 7, 8:
		return leaf(among(c, plainOps()...))
	}
	return wire()
}

// block returns a valid block of at most this depth; its ports fit as it happens.
func (c *chance) block(depth int) api.Block {
	if depth <= 1 || c.of(8) == 0 {
		return c.leaf()
	}
	switch c.of(10) {
	case 0:
		return one(among(c, "gate", "reset"), c.block(depth-1))
	case 1:
		return turned(among(c, "up", "down"), 1+c.of(api.MaxTurns), c.block(depth-1))
	}
	return two(among(c, joints()...), c.block(depth-1), c.block(depth-1))
}

// fitting returns a valid block with these ports, of at most this depth but for what a box needs.
func (c *chance) fitting(depth, ins, outs int) api.Block {
	between := 1 + c.of(3)
	switch sub := depth - 1; c.of(9) * min(sub, 1) {
	case 1:
		i, o := c.of(ins+1), c.of(outs+1)
		return two("par", c.fitting(sub, i, o), c.fitting(sub, ins-i, outs-o))
	case 2:
		return two("seq", c.fitting(sub, ins, between), c.fitting(sub, between, outs))
	case 3:
		return two("split", c.fitting(sub, ins, between), c.fitting(sub, between*(1+c.of(3)), outs))
	case 4:
		return two("merge", c.fitting(sub, ins, between*(1+c.of(3))), c.fitting(sub, between, outs))
	case 5:
		return two("rec", c.fitting(sub, ins+between, outs), c.fitting(sub, c.of(outs+1), between))
	case 6:
		return turned(among(c, "up", "down"), 1+c.of(api.MaxTurns), c.fitting(sub, ins, outs))
	case 7:
		if ins > 0 {
			return one(among(c, "gate", "reset"), c.fitting(sub, ins-1, outs))
		}
	}
	b := c.leafOr(box(ins, outs), ins, outs)
	for _, place := range places(b) {
		if at := pointer(&b, place); len(at.Kids) == 0 {
			i, o, _, _ := rowOf(at.Op)
			*at = c.leafOr(*at, i, o)
		}
	}
	return b
}

// leafOr returns a leaf with these ports, or the block that has them.
func (c *chance) leafOr(b api.Block, ins, outs int) api.Block {
	l := []api.Block{c.leaf(), c.leaf(), c.leaf(), c.leaf(), c.knob(), show(c.path())}
	for _, leaf := range l[c.of(len(l)):] {
		if i, o, _, _ := rowOf(leaf.Op); i == ins && o == outs {
			return leaf
		}
	}
	return b
}

// spoil changes a field of one of the blocks of b, which may stay valid.
func (c *chance) spoil(b *api.Block) {
	at := pointer(b, among(c, places(*b)...))
	number := among(c, -1, 0, 1, 2, 8, 9, 4096, 4097)
	switch c.of(9) {
	case 0:
		at.Op = among(c, append(append(plainOps(), joints()...), "", "num", "fit", "delay", "vary", "table", "store", "wave", "knob", "show", "up", "down", "gate", "reset", "Wire", "const")...)
	case 1:
		at.N = number
	case 2:
		at.M = number
	case 3:
		at.Name = among(c, "", "a", "a b", `a"`, "é", strings.Repeat("z", api.MaxName), strings.Repeat("z", api.MaxName+1))
	case 4:
		at.Format = among(c, api.Format{}, format("fix", 1, 2, "near", "sat"), format("float", 1, 2, "near", "wrap"), format("fix", 16, 15, "near", "sat"))
	case 5:
		at.Nums = append(slices.Clone(at.Nums), c.number())
	case 6:
		at.Nums = among(c, nil, []api.Q{}, []api.Q{among(c, notNumbers()...)}, qs(1), qs(1, 0, 2, 0), qs(1, 2, 3, 0), slices.Repeat(qs(1), 256), slices.Repeat(qs(1), 257))
	case 7:
		at.Kids = append(slices.Clone(at.Kids), c.leaf())
	default:
		at.Kids = slices.Clone(at.Kids[:len(at.Kids)/2])
	}
}
