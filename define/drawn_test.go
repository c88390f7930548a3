package define_test

import (
	"slices"
	"strings"

	"serinette/api"
	"serinette/define"
	"serinette/ratio"
)

func num(n, d int64) api.Term { return api.Term{Op: "num", Num: ratio.Make(n, d)} }

func leaf(op string) api.Term { return api.Term{Op: op} }

func sign(op string) api.Term { return api.Term{Op: "op", Text: op} }

func text(s string) api.Term { return api.Term{Op: "text", Text: s} }

func list(l ...api.Term) api.Term { return api.Term{Op: "list", Kids: l} }

func two(op string, a, b api.Term) api.Term { return api.Term{Op: op, Kids: []api.Term{a, b}} }

func call(f api.Term, args ...api.Term) api.Term {
	return api.Term{Op: "call", Kids: append([]api.Term{f}, args...)}
}

func dot(t api.Term, s string) api.Term { return api.Term{Op: "dot", Text: s, Kids: []api.Term{t}} }

func fun(body api.Term, names ...string) api.Term {
	return api.Term{Op: "fun", Names: names, Kids: []api.Term{body}}
}

func iter(op, name string, often, body api.Term) api.Term {
	return api.Term{Op: "iter", Text: op, Names: []string{name}, Kids: []api.Term{often, body}}
}

func with(t api.Term, defs ...api.Def) api.Term {
	return api.Term{Op: "with", Kids: []api.Term{t}, Defs: defs}
}

func env(defs ...api.Def) api.Term { return api.Term{Op: "env", Defs: defs} }

func rule(body api.Term, args ...api.Term) api.Def { return api.Def{Args: args, Body: body} }

// chance draws numbers, always the same ones.
type chance uint64

// of returns a number from 0 to n - 1.
func (c *chance) of(n int) int {
	*c = *c*6364136223846793005 + 1442695040888963407
	return int(uint64(*c) >> 33 % uint64(n))
}

// among returns one of a list.
func among[T any](c *chance, l ...T) T { return l[c.of(len(l))] }

// shuffle puts a list in another order.
func shuffle[T any](c *chance, l []T) {
	for i := range l {
		j := c.of(i + 1)
		l[i], l[j] = l[j], l[i]
	}
}

// sort is what a drawn term is to give.
type sort struct {
	kind      string // number, block, text, list, env, function; hidden: a name that is bound, but not to be used
	ins, outs int
	args      []sort
	gives     []sort // of a function, one
	has       []bound
}

// bound is a name and the sort of what it is bound to.
type bound struct {
	name string
	sort sort
}

// drawer draws terms that mostly give what they are to.
type drawer struct {
	*chance
	seen  []bound
	wrong int // one of so many terms is another one than it is to be; 0: none
}

func isSame(a, b sort) bool {
	return a.kind == b.kind && a.ins == b.ins && a.outs == b.outs && slices.EqualFunc(a.args, b.args, isSame) && slices.EqualFunc(a.gives, b.gives, isSame) && slices.EqualFunc(a.has, b.has, func(a, b bound) bool { return a.name == b.name && isSame(a.sort, b.sort) })
}

// find returns the sort of what a name is bound to.
func (d *drawer) find(name string) (sort, bool) {
	for _, b := range slices.Backward(d.seen) {
		if b.name == name {
			return b.sort, true
		}
	}
	return sort{}, false
}

// seeing draws something where more is seen.
func (d *drawer) seeing(more []bound, do func()) {
	before := d.seen
	d.seen = append(slices.Clip(d.seen), more...)
	do()
	d.seen = before
}

// name draws a name, often one that stands elsewhere, or that of a built-in.
func (d *drawer) name() string {
	return among(d.chance, strings.Fields("a a b b c c d e f f g h n n neg abs min pick delay show up l k m table gate")...)
}

// names draws n different names.
func (d *drawer) names(n int) []string {
	var l []string
	for len(l) < n {
		if s := d.name(); !slices.Contains(l, s) {
			l = append(l, s)
		}
	}
	return l
}

// sort draws a sort.
func (d *drawer) sort(size int) sort {
	switch n := d.of(20); {
	case n < 7:
		return sort{kind: "number"}
	case n < 14 || size < 2:
		return sort{kind: "block", ins: d.of(3), outs: d.of(3)}
	case n == 14:
		return sort{kind: "text"}
	case n == 15:
		return sort{kind: "list"}
	case n == 16:
		e := sort{kind: "env"}
		for _, s := range d.names(1 + d.of(3)) {
			e.has = append(e.has, bound{s, d.sort(size - 2)})
		}
		return e
	}
	f := sort{kind: "function", gives: []sort{d.sort(size - 2)}}
	for range 1 + d.of(2) {
		f.args = append(f.args, d.sort(size-2))
	}
	return f
}

// ways returns terms of names that give a sort; calls and dots of names, too.
func (d *drawer) ways(s sort, size int) []api.Term {
	var l []api.Term
	for _, b := range d.seen {
		if found, _ := d.find(b.name); !isSame(found, b.sort) {
			continue
		}
		if isSame(b.sort, s) {
			l = append(l, name(b.name), name(b.name))
		}
		if b.sort.kind == "function" && isSame(b.sort.gives[0], s) && size > 1 {
			l = append(l, call(name(b.name), d.terms(b.sort.args, size-2)...))
		}
		for _, field := range b.sort.has {
			if isSame(field.sort, s) {
				l = append(l, dot(name(b.name), field.name))
			}
		}
	}
	return l
}

// terms draws terms of these sorts.
func (d *drawer) terms(sorts []sort, size int) []api.Term {
	var l []api.Term
	for _, s := range sorts {
		l = append(l, d.term(s, size/max(1, len(sorts))))
	}
	return l
}

// term draws a term of a sort.
func (d *drawer) term(s sort, size int) api.Term {
	if d.wrong > 0 && d.of(d.wrong) == 0 {
		return d.other(size)
	}
	if d.of(3) > 0 && size < 12 {
		if l := d.ways(s, size); len(l) > 0 {
			return among(d.chance, l...)
		}
	}
	if size > 2 && d.of(4) == 0 {
		return d.around(s, size-2)
	}
	switch s.kind {
	case "number":
		return d.number(size)
	case "text":
		return text(among(d.chance, "near", "floor", "sat", "wrap", "a", "b/c", "long-path"))
	case "list":
		return list(d.terms(slices.Repeat([]sort{{kind: "number"}}, 1+d.of(3)), size-1)...)
	case "env":
		return env(d.definitions(s.has, size-1, nil)...)
	case "function":
		return d.function(s, size)
	}
	return d.block(s.ins, s.outs, size)
}

// other draws a term that is likely wrong where it stands.
func (d *drawer) other(size int) api.Term {
	switch d.of(6) {
	case 0:
		return name(among(d.chance, "unbound", "z", "delay", "knob", d.name()))
	case 1:
		return among(d.chance, leaf("cut"), leaf("wire"), num(1, 2), text(""), num(70, 1), num(-1, 1), two("seq", leaf("wire"), num(1, 1)))
	case 2:
		return dot(d.term(d.sort(size-1), size-1), d.name())
	case 3:
		return call(d.term(d.sort(size-1), size-1), d.terms([]sort{d.sort(1), d.sort(1)}[:1+d.of(2)], 2)...)
	case 4:
		s := d.name()
		return with(d.term(d.sort(2), 2), api.Def{Name: s, Body: num(1, 1)}, api.Def{Name: s, Args: []api.Term{name("a"), num(1, 1)}[:d.of(3)], Body: num(2, 1)})
	}
	return d.term(d.sort(size-1), size-1)
}

// around draws a term that binds something around one of a sort.
func (d *drawer) around(s sort, size int) api.Term {
	switch d.of(6) {
	case 0, 1:
		var t api.Term
		places := d.places(2)
		defs := d.definitions(places, size/2, func() { t = d.term(s, size/2) })
		return with(t, defs...)
	case 2:
		f := sort{kind: "function", args: []sort{d.sort(size / 3)}, gives: []sort{s}}
		return call(d.function(f, size/2), d.terms(f.args, size/2)...)
	case 3:
		places := append(d.places(2), bound{d.name(), s})
		last := places[len(places)-1].name
		places = slices.DeleteFunc(places, func(b bound) bool { return b.name == last && !isSame(b.sort, s) })
		return dot(env(d.definitions(places, size, nil)...), last)
	case 4:
		f := sort{kind: "function", args: []sort{{kind: "number"}, d.sort(size / 3)}, gives: []sort{s}}
		return call(d.cases(f, size/2), d.terms(f.args, size/2)...)
	}
	return with(d.term(s, size))
}

// places draws names and sorts of definitions.
func (d *drawer) places(n int) []bound {
	var l []bound
	for _, s := range d.names(1 + d.of(n)) {
		l = append(l, bound{s, d.sort(4)})
	}
	return l
}

// definitions draws definitions of these names, in any order, and something behind them where they are seen.
func (d *drawer) definitions(places []bound, size int, behind func()) []api.Def {
	var groups [][]api.Def
	var hidden []bound
	for _, p := range places {
		hidden = append(hidden, bound{p.name, sort{kind: "hidden"}})
	}
	d.seeing(hidden, func() {
		for _, p := range places {
			groups = append(groups, d.definition(p, size/len(places)))
			d.seen = append(d.seen, p)
		}
		if behind != nil {
			behind()
		}
	})
	shuffle(d.chance, groups)
	return slices.Concat(groups...)
}

// definition draws the definitions of a name.
func (d *drawer) definition(p bound, size int) []api.Def {
	var defs []api.Def
	if p.sort.kind == "function" && d.of(4) > 0 {
		defs = d.rules(p.sort, size)
	} else {
		defs = []api.Def{{Body: d.term(p.sort, size)}}
	}
	for i := range defs {
		defs[i].Name = p.name
	}
	return defs
}

// function draws a function.
func (d *drawer) function(s sort, size int) api.Term {
	if d.of(2) == 0 {
		return d.cases(s, size)
	}
	names := d.names(len(s.args))
	var l []bound
	for i, name := range names {
		l = append(l, bound{name, s.args[i]})
	}
	var body api.Term
	d.seeing(l, func() { body = d.term(s.gives[0], size-1) })
	return fun(body, names...)
}

// cases draws a case.
func (d *drawer) cases(s sort, size int) api.Term {
	return api.Term{Op: "case", Defs: d.rules(s, size)}
}

// rules draws rules: some for numbers, then one that fits all, mostly.
func (d *drawer) rules(s sort, size int) []api.Def {
	var defs []api.Def
	n := 1 + d.of(3)
	for i := range n {
		var patterns []api.Term
		var l []bound
		names := d.names(len(s.args))
		for j, arg := range s.args {
			if arg.kind == "number" && i < n-1 && d.of(3) > 0 || d.of(40) == 0 {
				patterns = append(patterns, num(int64(d.of(4))-1, 1))
			} else {
				patterns = append(patterns, name(names[j]))
				l = append(l, bound{names[j], arg})
			}
		}
		d.seeing(l, func() { defs = append(defs, rule(d.term(s.gives[0], size/n), patterns...)) })
	}
	return defs
}

// builtIn returns a built-in, or a call of it; false: its name is bound to something else.
func (d *drawer) builtIn(s string, args ...api.Term) (api.Term, bool) {
	if _, isBound := d.find(s); isBound {
		return api.Term{}, false
	}
	if len(args) == 0 {
		return name(s), true
	}
	return call(name(s), args...), true
}

// number draws a term of a number.
func (d *drawer) number(size int) api.Term {
	if size < 2 {
		return num(among(d.chance, int64(0), 1, 2, 3, -1, 5), among(d.chance, int64(1), 1, 1, 2))
	}
	one := func() api.Term { return d.term(sort{kind: "number"}, size/3) }
	op := sign(among(d.chance, strings.Fields("add sub mul div mod lt le eq ne and or xor shl shr add sub mul")...))
	switch d.of(10) {
	case 0, 1:
		return two("seq", two("par", one(), one()), op)
	case 2:
		return call(op, one(), one())
	case 3:
		if f, ok := d.builtIn(among(d.chance, "neg", "abs", "floor", "round", "frac", "not")); ok {
			return among(d.chance, call(f, one()), two("seq", one(), f))
		}
	case 4:
		return two("split", one(), op)
	case 5:
		return two("merge", two("par", one(), two("par", one(), one())), leaf("wire"))
	case 6:
		s := d.name()
		var body api.Term
		d.seeing([]bound{{s, sort{kind: "number"}}}, func() { body = d.term(sort{kind: "number"}, size/3) })
		return iter(among(d.chance, "sum", "sum", "par"), s, num(1+int64(d.of(3)), 1), body)
	case 7:
		if f, ok := d.builtIn(among(d.chance, "min", "max")); ok {
			return call(f, one(), one())
		}
	case 8:
		if f, ok := d.builtIn("pick", one(), one(), one()); ok {
			return f
		}
	case 9:
		if f, ok := d.builtIn("fix", num(2, 1), num(int64(d.of(3)), 1), text("near"), text("sat")); ok {
			return call(f, one())
		}
	}
	return two("par", two("seq", one(), leaf("cut")), one())
}

// block draws a term of a block with these ports.
func (d *drawer) block(ins, outs, size int) api.Term {
	of := func(ins, outs int) api.Term { return d.term(sort{kind: "block", ins: ins, outs: outs}, size/2) }
	if size < 3 {
		return d.simple(ins, outs)
	}
	switch d.of(9) {
	case 0, 1:
		i, o := d.of(ins+1), d.of(outs+1)
		return two("par", of(i, o), of(ins-i, outs-o))
	case 2, 3:
		between := d.of(4)
		return two("seq", of(ins, between), of(between, outs))
	case 4:
		between := 1 + d.of(2)
		if d.of(2) == 0 {
			return two("split", of(ins, between), of(between*(1+d.of(2)), outs))
		}
		return two("merge", of(ins, between*(1+d.of(2))), of(between, outs))
	case 5:
		fed, back := d.of(min(outs, 2)+1), d.of(3)
		return two("rec", of(ins+back, outs), of(fed, back))
	case 6:
		if given := d.of(3); given > 0 {
			return call(of(ins+given-1, outs), append(d.terms(slices.Repeat([]sort{{kind: "number"}}, given-1), size/3), of(1, 1))...)
		}
		return call(of(ins, outs), two("seq", of(0, 1), leaf("cut")))
	case 7:
		return d.turned(ins, outs, size)
	}
	return d.made(ins, outs, size)
}

// simple draws wires, cuts and numbers side by side, or an op.
func (d *drawer) simple(ins, outs int) api.Term {
	if ins == 2 && outs == 1 && d.of(2) == 0 {
		return sign(among(d.chance, "add", "sub", "mul", "div", "lt", "eq", "and"))
	}
	var l []api.Term
	for range min(ins, outs) {
		l = append(l, leaf("wire"))
	}
	for range ins - outs {
		l = append(l, leaf("cut"))
	}
	for range outs - ins {
		l = append(l, num(int64(d.of(4)), 1))
	}
	if len(l) == 0 {
		return two("seq", num(1, 1), leaf("cut"))
	}
	t := l[0]
	for _, other := range l[1:] {
		t = two("par", t, other)
	}
	return t
}

// turned draws a block by an iter.
func (d *drawer) turned(ins, outs, size int) api.Term {
	n, s := 1+d.of(3), d.name()
	op := "par"
	switch {
	case ins == outs && d.of(2) == 0:
		op = "seq"
	case outs == 1 && d.of(2) == 0 && ins%n == 0:
		op, ins = "sum", ins/n
	case ins%n == 0 && outs%n == 0:
		ins, outs = ins/n, outs/n
	default:
		n = 1
	}
	often := num(int64(n), 1)
	if d.of(3) == 0 {
		often = two("seq", two("par", num(int64(n-1), 1), num(1, 1)), sign("add"))
	}
	var body api.Term
	d.seeing([]bound{{s, sort{kind: "number"}}}, func() { body = d.term(sort{kind: "block", ins: ins, outs: outs}, size/2) })
	return iter(op, s, often, body)
}

// made draws a block by a built-in, if there is one with these ports.
func (d *drawer) made(ins, outs, size int) api.Term {
	kid := func(ins int) api.Term { return d.term(sort{kind: "block", ins: ins, outs: outs}, size/2) }
	list := d.term(sort{kind: "list"}, 3)
	small := func() api.Term { return num(int64(1+d.of(4)), 1) }
	t, ok := api.Term{}, false
	switch n := d.of(6); {
	case n == 0:
		t, ok = d.builtIn(among(d.chance, "up", "down"), small(), kid(ins))
	case n == 1 && ins > 0:
		t, ok = d.builtIn(among(d.chance, "gate", "reset"), kid(ins-1))
	case outs != 1:
	case ins == 0 && n == 2:
		t, ok = d.builtIn("wave", list)
	case ins == 0:
		t, ok = d.builtIn("knob", d.path(), num(1, 1), num(0, 1), small(), num(0, 1))
	case ins == 1 && n == 2:
		t, ok = d.builtIn("delay", among(d.chance, small(), d.term(sort{kind: "number"}, 2)))
	case ins == 1 && n == 3:
		t, ok = d.builtIn("table", list)
	case ins == 1 && n == 4:
		t, ok = d.builtIn("show", d.path())
	case ins == 1:
		t, ok = d.builtIn(among(d.chance, "fix", "float"), small(), num(int64(d.of(3)), 1), among(d.chance, text("near"), text("floor"), d.term(sort{kind: "text"}, 1)), text("sat"))
	case ins == 2:
		t, ok = d.builtIn("vary", num(int64(d.of(2)), 1), small())
	case ins == 3:
		t, ok = d.builtIn("store", list)
	}
	if !ok {
		return d.simple(ins, outs)
	}
	return t
}

// path draws a text that is likely a path of its own.
func (d *drawer) path() api.Term {
	if d.of(6) == 0 {
		return d.term(sort{kind: "text"}, 1)
	}
	return text("p" + string(rune('a'+d.of(26))) + string(rune('a'+d.of(26))))
}

// program is what Eval is given.
type program struct {
	defs      []api.Def
	t         api.Term
	libraries []define.Library
}

// draw draws a program; one of so many of its terms is likely wrong (0: none).
func draw(c *chance, wrong int) program {
	d := &drawer{chance: c, wrong: wrong}
	var p program
	var shelf []bound
	for range c.of(3) {
		l := bound{among(c, "l", "k", "m", "neg"), sort{kind: "env", has: d.places(3)}}
		p.libraries = append(p.libraries, define.Library{Name: l.name})
		shelf = append(shelf, l)
	}
	for i, l := range shelf {
		// A library may go on to those behind it, so that none goes on without an end; the first of a name hides others.
		d.seen = nil
		for j, other := range slices.Backward(shelf) {
			if j <= i {
				other.sort = sort{kind: "hidden"}
			}
			d.seen = append(d.seen, other)
		}
		p.libraries[i].Defs = d.definitions(l.sort.has, 12, nil)
	}
	d.seen = nil
	for _, l := range slices.Backward(shelf) {
		d.seen = append(d.seen, l)
	}
	places := d.places(5)
	p.defs = d.definitions(places, 20+c.of(60), func() {
		p.t = d.term(sort{kind: "block", ins: c.of(3), outs: c.of(3)}, 8+c.of(12))
	})
	return p
}
