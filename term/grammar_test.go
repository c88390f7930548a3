package term_test

import (
	"slices"
	"strconv"
	"strings"
	"testing"

	"serinette/api"
	"serinette/term"
)

// grammar is the chapter's, each line a head and what it may be; words that are no heads are tokens.
const grammar = `
source =
source = source def
def = NAME = expr ;
def = NAME ( patterns ) = expr ;
patterns = pattern
patterns = patterns , pattern
pattern = NUM
pattern = NAME
expr = split
expr = expr with { source }
split = seq
split = split <: seq
split = split :> seq
seq = row
seq = seq : row
row = rec
row = row , rec
arg = argsplit
arg = arg with { source }
argsplit = argseq
argsplit = argsplit <: argseq
argsplit = argsplit :> argseq
argseq = rec
argseq = argseq : rec
rec = applied
rec = rec ~ applied
applied = primary
applied = applied ( args )
applied = applied . NAME
args = arg
args = args , arg
names = NAME
names = names , NAME
rules = rule
rules = rules rule
rule = ( patterns ) => expr ;
primary = NUM
primary = NAME
primary = TEXT
primary = _
primary = !
primary = OP
primary = ( expr )
primary = [ args ]
primary = \ ( names ) . ( expr )
primary = ITER ( NAME , arg , arg )
primary = case { rules }
primary = env { source }
`

// production is a way to make a head.
type production struct {
	head string
	body []string
}

// productions returns those of the grammar.
func productions() []production {
	var l []production
	for _, s := range strings.Split(strings.TrimSpace(grammar), "\n") {
		words := strings.Fields(s)
		l = append(l, production{words[0], words[2:]})
	}
	return l
}

// state is a production as far as it has been met, from a place on.
type state struct{ rule, met, from int }

// reader follows all ways to read tokens at once, by the grammar alone.
type reader struct {
	rules []production
	sets  [][]state
}

// add puts a state into the last set, once.
func (r *reader) add(s state) {
	last := len(r.sets) - 1
	if !slices.Contains(r.sets[last], s) {
		r.sets[last] = append(r.sets[last], s)
	}
}

// wants returns the symbol that stands next in a state; none: it is complete.
func (r *reader) wants(s state) string {
	if body := r.rules[s.rule].body; s.met < len(body) {
		return body[s.met]
	}
	return ""
}

// close adds to the last set what follows from it.
func (r *reader) close() {
	last := len(r.sets) - 1
	for i := 0; i < len(r.sets[last]); i++ {
		now := r.sets[last][i]
		wanted := r.wants(now)
		if wanted == "" {
			for _, s := range r.sets[now.from] {
				if r.wants(s) == r.rules[now.rule].head {
					r.add(state{s.rule, s.met + 1, s.from})
				}
			}
			continue
		}
		for k, rule := range r.rules {
			if rule.head == wanted {
				r.add(state{k, 0, last})
			}
		}
		if wanted == "source" { // The one head that may be nothing.
			r.add(state{now.rule, now.met + 1, now.from})
		}
	}
}

// read returns how many tokens some text of this head begins with, and whether they are all of one.
func (r *reader) read(head string, tokens []string) (met int, whole bool) {
	r.sets = [][]state{nil}
	for k, rule := range r.rules {
		if rule.head == head {
			r.add(state{k, 0, 0})
		}
	}
	r.close()
	for i, token := range tokens {
		here := r.sets[i]
		r.sets = append(r.sets, nil)
		for _, s := range here {
			if r.wants(s) == token {
				r.add(state{s.rule, s.met + 1, s.from})
			}
		}
		if len(r.sets[i+1]) == 0 {
			return i, false
		}
		r.close()
	}
	for _, s := range r.sets[len(tokens)] {
		if s.from == 0 && r.wants(s) == "" && r.rules[s.rule].head == head {
			return len(tokens), true
		}
	}
	return len(tokens), false
}

// classOf returns what the grammar names a token.
func classOf(token string) string {
	switch {
	case slices.Contains([]string{"par", "seq", "sum"}, token):
		return "ITER"
	case slices.Contains([]string{"with", "case", "env"}, token):
		return token
	case slices.Contains(operatorSigns(), token):
		return "OP"
	case token[0] == '"':
		return "TEXT"
	case 'a' <= token[0]|' ' && token[0]|' ' <= 'z':
		return "NAME"
	case strings.ContainsAny(token, "0123456789"):
		return "NUM"
	}
	return token
}

// tokens returns tokens of a source, of which some may be taken out, put in or changed.
func (c *chance) tokens(isSource bool) []string {
	soup := strings.Fields(`n n n n 1 -2 1/2 "t" _ ! + - == ( ) ( ) { } [ ] , , : <: :> ~ . = => ; ; \ par sum case env with`)
	w := &speller{}
	if isSource {
		w.defs(c.defs(1 + c.of(4)))
	} else {
		w.spell(c.term(1+c.of(4)), 0, false)
	}
	l := w.tokens[:min(len(w.tokens), 40)]
	for range c.of(4) {
		at := c.of(len(l) + 1)
		switch c.of(4) {
		case 0:
			l = slices.Insert(l, at, one(c, soup...))
		case 1:
			l = slices.Insert(l, at, one(c, soup...), one(c, soup...))
		case 2:
			l = slices.Delete(l, at, min(at+1, len(l)))
		default:
			l = slices.Concat(l[:at], []string{one(c, soup...)}, l[min(at+1, len(l)):])
		}
	}
	return l
}

// laid returns tokens with a blank behind each, their classes, and their places, that of the end, too. Each name becomes another one, so that none stands twice.
func laid(tokens []string) (source string, classes []string, places []int) {
	for i, token := range tokens {
		class := classOf(token)
		if class == "NAME" {
			token = "n" + strconv.Itoa(i)
		}
		classes = append(classes, class)
		places = append(places, len(source))
		source += token + " "
	}
	return source, classes, append(places, len(source))
}

// P4.1: what is read is what the grammar makes, and what is refused lies at the first token that none of its texts goes on with.
func TestAsTheGrammarSays(t *testing.T) {
	c := chance(48)
	r := &reader{rules: productions()}
	good, bad := 0, 0
	for i := range 6000 {
		source, classes, places := laid(c.tokens(i%2 == 0))
		if strings.Count(source, "=>") > 1 { // The grammar does not say that all rules have as many patterns.
			continue
		}
		head, err, place := "expr", api.OK, 0
		if i%2 == 0 {
			head = "source"
			_, place, err = term.Parse(source)
		} else {
			_, place, err = term.Expr(source)
		}
		met, whole := r.read(head, classes)
		if whole {
			good++
			if err != api.OK {
				t.Errorf("%q is a %s: place %d, %v", source, head, place, err)
			}
			continue
		}
		bad++
		if place != places[met] || err != api.ErrForm {
			t.Errorf("%q is no %s: place %d, %v, want place %d", source, head, place, err, places[met])
		}
	}
	if good < 1000 || bad < 2000 {
		t.Errorf("only %d are read and %d refused", good, bad)
	}
}
