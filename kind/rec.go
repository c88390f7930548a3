package kind

import (
	"slices"
	"strings"

	"serinette/api"
	"serinette/span"
)

// joined is how many rounds a rec goes in which what is fed back is joined; behind them it is widened, so that they end.
const joined = 8

// most is of how many ins a rec remembers what it tells; then it forgets them all, so that memory stays bounded.
const most = 1000

// tellRec is tell of a rec. Each round of a rec around it goes all its rounds again, and so on within one another; mostly with ins of which it has told already, so it remembers.
func (p *part) tellRec(first, second *part, ins []api.Kind) []api.Kind {
	key := textOf(ins)
	if outs, ok := p.known[key]; ok {
		return outs
	}
	outs := goRound(first, second, ins)
	if len(p.known) == most {
		clear(p.known)
	}
	p.known[key] = outs
	return outs
}

// textOf returns a text that is another one for other kinds.
func textOf(l []api.Kind) string {
	var text strings.Builder
	for _, k := range l {
		text.WriteString(span.Text(k.Span) + " " + k.Rate + "\n")
	}
	return text.String()
}

// goRound returns the kinds of the outs of a rec: what comes back is told by what is fed, until this has all of that.
func goRound(first, second *part, ins []api.Kind) []api.Kind {
	fed := slices.Repeat([]api.Kind{{Span: nothing(), Rate: constant}}, second.outs)
	for round := 1; ; round++ {
		outs := first.tell(slices.Concat(fed, ins))
		back := second.tell(outs[:second.ins])
		next := grown(round, fed, back)
		if slices.Equal(next, fed) {
			return outs
		}
		fed = next
	}
}

// grown returns the kinds of what is fed behind a round in which these came back.
func grown(round int, fed, back []api.Kind) []api.Kind {
	more := span.Join
	if round > joined {
		more = span.Widen
	}
	next := make([]api.Kind, len(fed))
	for i, k := range fed {
		next[i] = api.Kind{Span: more(k.Span, back[i].Span), Rate: greater(k.Rate, back[i].Rate)}
	}
	return next
}
