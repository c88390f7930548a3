package define_test

import (
	"slices"
	"strings"

	"serinette/api"
	"serinette/define"
	"serinette/quant"
	"serinette/ratio"
	"serinette/term"
)

// The chapter's words a second time, for the tests alone: refusals are panics, what is seen is a stack of frames, and ports are told as blocks are made.

// refusal is an error and where it lies.
type refusal struct {
	where string
	err   api.Errno
}

// thing is a value, by its sort: block, function, text, list, env, or built-in ahead of arguments.
type thing struct {
	sort      string
	block     api.Block
	ins, outs int
	text      string
	items     []thing
	rules     []api.Def
	names     []string // of a fun
	body      api.Term
	seen      []frame
	from      int // where the frames of an env begin
	where     string
}

// frame is a name and what it is bound to: a thing, definitions (in whose bodies as many frames are seen), or a library.
type frame struct {
	name  string
	thing *thing
	rules []api.Def
	sees  int
	shelf []api.Def
}

// teller evaluates.
type teller struct{ steps int }

// evalByWords is Eval.
func evalByWords(defs []api.Def, t api.Term, libraries []define.Library) (b api.Block, where string, err api.Errno) {
	defer func() {
		if r := recover(); r != nil {
			f := r.(refusal)
			b, where, err = api.Block{}, f.where, f.err
		}
	}()
	ok := term.Valid(t) && term.Valid(api.Term{Op: "env", Defs: defs})
	var seen []frame
	for i := range libraries {
		l := libraries[len(libraries)-1-i]
		ok = ok && term.Valid(api.Term{Op: "env", Defs: l.Defs})
		seen = append(seen, frame{name: l.Name, shelf: l.Defs, sees: len(libraries)})
	}
	must("", ok, api.ErrArg)
	var e teller
	v := e.eval(t, placed(defs, seen, ""), "", 1)
	must("", v.sort == "block", api.ErrArg)
	must("", pathsByWords(v.block), api.ErrTwice)
	return v.block, "", api.OK
}

// must refuses, unless it is so.
func must(where string, ok bool, err api.Errno) {
	if !ok {
		panic(refusal{where, err})
	}
}

// placed puts definitions on what is seen.
func placed(defs []api.Def, seen []frame, where string) []frame {
	for _, d := range defs {
		for _, other := range defs {
			must(where, d.Name != other.Name || len(d.Args) == len(other.Args), api.ErrTwice)
		}
	}
	seen = slices.Clip(seen)
	first := len(seen)
	for _, d := range defs {
		i := slices.IndexFunc(seen[first:], func(f frame) bool { return f.name == d.Name })
		if i < 0 {
			seen = append(seen, frame{name: d.Name, rules: []api.Def{d}})
			continue
		}
		must(where, len(d.Args) > 0, api.ErrTwice)
		seen[first+i].rules = append(seen[first+i].rules, d)
	}
	for i := first; i < len(seen); i++ {
		seen[i].sees = len(seen)
	}
	return seen
}

// eval evaluates a term that is so deep in others.
func (e *teller) eval(t api.Term, seen []frame, where string, depth int) thing {
	return e.evalAs(t, seen, where, depth, false)
}

// evalAs evaluates a term that is called, or is not.
func (e *teller) evalAs(t api.Term, seen []frame, where string, depth int, isCalled bool) thing {
	e.steps++
	must(where, e.steps <= 20000 && depth <= 200, api.ErrLimit)
	below := func(t api.Term) thing { return e.eval(t, seen, where, depth+1) }
	switch t.Op {
	case "num":
		return thing{sort: "block", block: api.Block{Op: "num", Nums: []api.Q{t.Num}}, outs: 1}
	case "wire":
		return thing{sort: "block", block: api.Block{Op: "wire"}, ins: 1, outs: 1}
	case "cut":
		return thing{sort: "block", block: api.Block{Op: "cut"}, ins: 1}
	case "op":
		return thing{sort: "block", block: api.Block{Op: t.Text}, ins: 2, outs: 1}
	case "text":
		return thing{sort: "text", text: t.Text}
	case "par", "seq", "split", "merge", "rec":
		a := below(t.Kids[0])
		b := below(t.Kids[1])
		must(where, a.sort == "block" && b.sort == "block", api.ErrArg)
		return composed(where, t.Op, a, b)
	case "list":
		v := thing{sort: "list"}
		for _, kid := range t.Kids {
			v.items = append(v.items, below(kid))
		}
		return v
	case "env":
		return thing{sort: "env", seen: placed(t.Defs, seen, where), from: len(seen)}
	case "with":
		return e.eval(t.Kids[0], placed(t.Defs, seen, where), where, depth+1)
	case "fun":
		return thing{sort: "function", names: t.Names, body: t.Kids[0], seen: seen, where: where}
	case "case":
		return thing{sort: "function", rules: t.Defs, seen: seen, where: where}
	case "name":
		return e.named(t.Text, seen, 0, where, depth, isCalled)
	case "dot":
		v := below(t.Kids[0])
		must(where, v.sort == "env", api.ErrArg)
		must(where, slices.ContainsFunc(v.seen[v.from:], func(f frame) bool { return f.name == t.Text }), api.ErrName)
		return e.named(t.Text, v.seen, v.from, where, depth, false)
	case "iter":
		return e.iterated(t, seen, where, depth)
	}
	called := e.evalAs(t.Kids[0], seen, where, depth+1, true)
	var args []thing
	for _, kid := range t.Kids[1:] {
		args = append(args, below(kid))
	}
	return e.called(called, args, where, depth)
}

// named is what a name is bound to, in the last frame of it from one on.
func (e *teller) named(name string, seen []frame, from int, where string, depth int, isCalled bool) thing {
	for i := len(seen) - 1; i >= from; i-- {
		f := seen[i]
		switch {
		case f.name != name:
		case f.thing != nil:
			return *f.thing
		case len(f.rules) == 0:
			return thing{sort: "env", seen: placed(f.shelf, seen[:f.sees], where), from: f.sees}
		case len(f.rules[0].Args) == 0:
			return e.eval(f.rules[0].Body, seen[:f.sees], name, depth+1)
		default:
			return thing{sort: "function", rules: f.rules, seen: seen[:f.sees], where: name}
		}
	}
	if i := slices.Index(strings.Fields("neg abs floor round frac not min max pick"), name); i >= 0 {
		return thing{sort: "block", block: api.Block{Op: name}, ins: []int{1, 1, 1, 1, 1, 1, 2, 2, 3}[i], outs: 1}
	}
	must(where, len(signatures()[name]) > 0, api.ErrName)
	must(where, isCalled, api.ErrArg)
	return thing{sort: "built-in", text: name}
}

// iterated is an iter.
func (e *teller) iterated(t api.Term, seen []frame, where string, depth int) thing {
	n, ok := numberByWords(e.eval(t.Kids[0], seen, where, depth+1))
	must(where, ok && n.D == 1 && n.N >= 1 && n.N <= 64, api.ErrNumber)
	var l []thing
	for i := range n.N {
		number := thing{sort: "block", block: api.Block{Op: "num", Nums: []api.Q{{N: i, D: 1}}}, outs: 1}
		l = append(l, e.eval(t.Kids[1], append(slices.Clip(seen), frame{name: t.Names[0], thing: &number}), where, depth+1))
		must(where, l[i].sort == "block", api.ErrArg)
	}
	for _, v := range l {
		must(where, t.Text != "sum" || v.outs == 1, api.ErrPorts)
	}
	op := map[string]string{"par": "par", "seq": "seq", "sum": "par"}[t.Text]
	whole := l[0]
	for _, v := range l[1:] {
		whole = unasked(op, whole, v)
	}
	if t.Text == "sum" && len(l) > 1 {
		whole = unasked("merge", whole, thing{block: api.Block{Op: "wire"}, ins: 1, outs: 1})
	}
	return portsAsked(where, whole)
}

// called is a call.
func (e *teller) called(f thing, args []thing, where string, depth int) thing {
	switch f.sort {
	case "block":
		return calledBlock(f, args, where)
	case "built-in":
		return built(f.text, args, where)
	case "function":
		rules := f.rules
		if len(f.names) > 0 {
			var args []api.Term
			for _, s := range f.names {
				args = append(args, name(s))
			}
			rules = []api.Def{{Args: args, Body: f.body}}
		}
		must(where, len(args) == len(rules[0].Args), api.ErrArg)
		for _, rule := range rules {
			seen, fits := slices.Clip(f.seen), true
			for i, pattern := range rule.Args {
				if pattern.Op == "name" {
					seen = append(seen, frame{name: pattern.Text, thing: &args[i]})
					continue
				}
				n, ok := numberByWords(args[i])
				fits = fits && ok && n == pattern.Num
			}
			if fits {
				return e.eval(rule.Body, seen, f.where, depth+1)
			}
		}
		panic(refusal{where, api.ErrMatch})
	}
	panic(refusal{where, api.ErrArg})
}

// calledBlock is a call of a block.
func calledBlock(f thing, args []thing, where string) thing {
	outs := 0
	for _, v := range args {
		must(where, v.sort == "block", api.ErrArg)
		outs += v.outs
	}
	must(where, outs <= f.ins, api.ErrPorts)
	row := args[0]
	for _, v := range args[1:] {
		row = unasked("par", row, v)
	}
	for range f.ins - outs {
		row = unasked("par", row, thing{block: api.Block{Op: "wire"}, ins: 1, outs: 1})
	}
	return portsAsked(where, unasked("seq", row, f))
}

// signatures are the chapter's built-ins with arguments.
func signatures() map[string][]string {
	m := map[string][]string{}
	for _, s := range strings.Split("delay(n) vary(n,m) table(l) store(l) wave(l) knob(p,q,q,q,q) show(p) fix(n,n,p,p) float(n,n,p,p) up(n,e) down(n,e) gate(e) reset(e)", " ") {
		name, args, _ := strings.Cut(strings.TrimSuffix(s, ")"), "(")
		m[name] = strings.Split(args, ",")
	}
	return m
}

// built is a call of a built-in.
func built(name string, args []thing, where string) thing {
	signature := signatures()[name]
	must(where, len(args) == len(signature), api.ErrArg)
	var ints []int
	var numbers []api.Q
	var texts []string
	var kid thing
	number := func(v thing) api.Q {
		q, ok := numberByWords(v)
		must(where, ok, api.ErrNumber)
		return q
	}
	for i, v := range args {
		switch signature[i] {
		case "n", "m":
			q := number(v)
			must(where, q.D == 1, api.ErrNumber)
			ints = append(ints, int(q.N))
		case "q":
			numbers = append(numbers, number(v))
		case "p":
			must(where, v.sort == "text", api.ErrArg)
			texts = append(texts, v.text)
		case "e":
			must(where, v.sort == "block", api.ErrArg)
			kid = v
		default:
			must(where, v.sort == "list", api.ErrArg)
			for _, v := range v.items {
				numbers = append(numbers, number(v))
			}
		}
	}
	b := thing{sort: "block", block: api.Block{Op: name, Nums: numbers}, ins: 1, outs: 1}
	ok := true
	switch name {
	case "delay":
		b.block.N = ints[0]
		ok = ints[0] >= 0 && ints[0] <= 4096
	case "vary":
		b.block.N, b.block.M, b.ins = ints[0], ints[1], 2
		ok = 0 <= ints[0] && ints[0] <= ints[1] && ints[1] <= 4096
	case "table", "store", "wave":
		b.ins = map[string]int{"table": 1, "store": 3}[name]
		ok = len(numbers) <= 256
	case "knob", "show":
		b.block.Name, b.ins = texts[0], map[string]int{"show": 1}[name]
		ok = texts[0] != "" && strings.Trim(texts[0], "abcdefghijklmnopqrstuvwxyzABCDEFGHIJKLMNOPQRSTUVWXYZ0123456789_-/") == ""
		if name == "knob" {
			// Drawn knobs have small numbers, so that the bound of their steps does not matter here.
			ok = ok && ratio.Cmp(numbers[1], numbers[0]) <= 0 && ratio.Cmp(numbers[0], numbers[2]) <= 0 && numbers[3].N >= 0
		}
	case "fix", "float":
		b.block = api.Block{Op: "fit", Format: api.Format{Kind: name, I: ints[0], F: ints[1], Round: texts[0], Over: texts[1]}}
		ok = quant.Valid(b.block.Format)
	case "up", "down":
		b.block.N = ints[0]
		ok = ints[0] >= 1 && ints[0] <= 8
	}
	must(where, ok, api.ErrArg)
	if kid.sort != "" {
		b.block.Kids, b.ins, b.outs = []api.Block{kid.block}, kid.ins, kid.outs
		if name == "gate" || name == "reset" {
			b.ins++
		}
	}
	return portsAsked(where, b)
}

// composed is what an op makes of two blocks, whose ports are asked.
func composed(where, op string, a, b thing) thing {
	return portsAsked(where, unasked(op, a, b))
}

// unasked is what an op makes of two blocks. Ins below 0 are an error that their ports have, or those of the first one had: its opposite.
func unasked(op string, a, b thing) thing {
	whole := thing{sort: "block", block: api.Block{Op: op, Kids: []api.Block{a.block, b.block}}, ins: a.ins, outs: b.outs}
	fits := true
	switch op {
	case "par":
		whole.ins, whole.outs = a.ins+b.ins, a.outs+b.outs
	case "seq":
		fits = a.outs == b.ins
	case "split":
		fits = a.outs > 0 && b.ins > 0 && b.ins%a.outs == 0
	case "merge":
		fits = b.ins > 0 && a.outs > 0 && a.outs%b.ins == 0
	case "rec":
		fits = b.ins <= a.outs && b.outs <= a.ins
		whole.ins, whole.outs = a.ins-b.outs, a.outs
	}
	switch {
	case a.ins < 0:
		whole.ins = a.ins
	case !fits:
		whole.ins = -50
	case whole.ins > 64 || whole.outs > 64:
		whole.ins = -4
	}
	return whole
}

// portsAsked refuses a block whose ports are.
func portsAsked(where string, v thing) thing {
	nodes, depth := sized(v.block)
	must(where, nodes <= 600 && depth <= 60, api.ErrLimit)
	must(where, v.ins >= 0, api.Errno(-v.ins))
	must(where, v.ins <= 64 && v.outs <= 64, api.ErrLimit)
	return v
}

// sized returns how many nodes a block has, and how deep it is.
func sized(b api.Block) (nodes, depth int) {
	for _, kid := range b.Kids {
		n, d := sized(kid)
		nodes, depth = nodes+n, max(depth, d)
	}
	return nodes + 1, depth + 1
}

// pathsByWords tells whether each path stands as it may.
func pathsByWords(b api.Block) bool {
	var knobs, shows []api.Block
	var gather func(b api.Block)
	gather = func(b api.Block) {
		switch b.Op {
		case "knob":
			knobs = append(knobs, b)
		case "show":
			shows = append(shows, b)
		}
		for _, kid := range b.Kids {
			gather(kid)
		}
	}
	gather(b)
	for i, show := range shows {
		isThat := func(other api.Block) bool { return other.Name == show.Name }
		if slices.ContainsFunc(knobs, isThat) || slices.ContainsFunc(shows[i+1:], isThat) {
			return false
		}
	}
	for _, a := range knobs {
		for _, b := range knobs {
			if a.Name == b.Name && !slices.Equal(a.Nums, b.Nums) {
				return false
			}
		}
	}
	return true
}

// numberByWords is the number of a thing whose ports are OK.
func numberByWords(v thing) (api.Q, bool) {
	if v.sort != "block" || v.ins != 0 || v.outs != 1 || !hasOpsOfNumbers(v.block) {
		return api.Q{}, false
	}
	q := outOf(v.block, 0, nil)
	return q, q.D != 0
}

// hasOpsOfNumbers tells whether all ops are such as a number may have.
func hasOpsOfNumbers(b api.Block) bool {
	const ops = " num wire cut neg abs floor round frac not add sub mul div mod min max lt le eq ne and or xor shl shr pick fit par seq split merge "
	return strings.Contains(ops, " "+b.Op+" ") && !slices.ContainsFunc(b.Kids, func(kid api.Block) bool { return !hasOpsOfNumbers(kid) })
}

// width returns the ports of a block of such ops.
func width(b api.Block) (ins, outs int) {
	switch b.Op {
	case "num":
		return 0, 1
	case "cut":
		return 1, 0
	case "par":
		i, o := width(b.Kids[0])
		j, p := width(b.Kids[1])
		return i + j, o + p
	case "seq", "split", "merge":
		ins, _ = width(b.Kids[0])
		_, outs = width(b.Kids[1])
		return ins, outs
	case "wire", "neg", "abs", "floor", "round", "frac", "not", "fit":
		return 1, 1
	case "pick":
		return 3, 1
	}
	return 2, 1
}

// outOf returns an out of a block, which asks for the ins that it hangs on alone.
func outOf(b api.Block, i int, in func(i int) api.Q) api.Q {
	var kids [2]api.Block
	copy(kids[:], b.Kids)
	of := func(k, i int) api.Q { return outOf(kids[k], i, in) }
	switch b.Op {
	case "par":
		ins, outs := width(kids[0])
		if i < outs {
			return of(0, i)
		}
		return outOf(kids[1], i-outs, func(j int) api.Q { return in(ins + j) })
	case "seq":
		return outOf(kids[1], i, func(j int) api.Q { return of(0, j) })
	case "split":
		_, outs := width(kids[0])
		return outOf(kids[1], i, func(j int) api.Q { return of(0, j%outs) })
	case "merge":
		_, outs := width(kids[0])
		ins, _ := width(kids[1])
		return outOf(kids[1], i, func(j int) api.Q {
			var l []api.Q
			for ; j < outs; j += ins {
				l = append(l, of(0, j))
			}
			return ratio.Sum(l)
		})
	case "num":
		return b.Nums[0]
	case "pick":
		switch s := in(0); {
		case s.D == 0:
			return s
		case s.N == 0:
			return in(1)
		}
		return in(2)
	case "not":
		return ratio.Test("eq", in(0), ratio.Make(0, 1))
	case "fit":
		return quant.Fit(b.Format, in(0))
	case "wire":
		return in(0)
	}
	if f, ok := opsOfOne()[b.Op]; ok {
		return f(in(0))
	}
	return opOfTwo(b.Op)(in(0), in(1))
}

// opsOfOne has ops with one in.
func opsOfOne() map[string]func(q api.Q) api.Q {
	return map[string]func(q api.Q) api.Q{"neg": ratio.Neg, "abs": ratio.Abs, "floor": ratio.Floor, "round": ratio.Round, "frac": ratio.Frac}
}

// opOfTwo returns an op with two ins.
func opOfTwo(op string) func(a, b api.Q) api.Q {
	ops := map[string]func(a, b api.Q) api.Q{"add": ratio.Add, "sub": ratio.Sub, "mul": ratio.Mul, "div": ratio.Div, "mod": ratio.Mod, "min": ratio.Min, "max": ratio.Max}
	if f, ok := ops[op]; ok {
		return f
	}
	if strings.Contains(" lt le eq ne ", op) {
		return func(a, b api.Q) api.Q { return ratio.Test(op, a, b) }
	}
	return func(a, b api.Q) api.Q { return ratio.Bits(op, a, b) }
}
