package block

import (
	"strconv"
	"strings"

	"serinette/api"
	"serinette/quant"
	"serinette/ratio"
)

// Text returns an op alone, or in brackets with what there is besides.
func Text(b api.Block) (string, api.Errno) {
	if !isValid(b) {
		return "", api.ErrArg
	}
	var w strings.Builder
	write(&w, b)
	return w.String(), api.OK
}

// write writes a valid block.
func write(w *strings.Builder, b api.Block) {
	s, _ := shapeOf(b.Op)
	if s.isBare() {
		w.WriteString(b.Op)
		return
	}
	w.WriteString("(" + b.Op)
	for _, word := range fieldWords(b, s) {
		w.WriteString(" " + word)
	}
	for _, kid := range b.Kids {
		w.WriteString(" ")
		write(w, kid)
	}
	w.WriteString(")")
}

// fieldWords returns the words of the fields that b has.
func fieldWords(b api.Block, s shape) []string {
	var l []string
	if s.ints >= 1 {
		l = append(l, strconv.Itoa(b.N))
	}
	if s.ints >= 2 {
		l = append(l, strconv.Itoa(b.M))
	}
	if s.hasFormat {
		l = append(l, quant.Text(b.Format))
	}
	if s.hasName {
		l = append(l, `"`+b.Name+`"`)
	}
	for _, q := range b.Nums {
		l = append(l, ratio.Text(q))
	}
	return l
}

// Parse reads what Text writes, with any spaces and line feeds around words and brackets.
func Parse(s string) (api.Block, api.Errno) {
	if len(s) > api.MaxText {
		return api.Block{}, api.ErrLimit
	}
	r := reader{rest: s}
	b := r.block()
	r.passBlanks()
	if r.isWrong || r.rest != "" || !isValid(b) {
		return api.Block{}, api.ErrForm
	}
	return b, api.OK
}

// reader reads a text from the left.
type reader struct {
	rest    string
	isWrong bool // what was read is not as Text writes it
}

// block reads a block.
func (r *reader) block() api.Block {
	isOpened := r.accept("(")
	b := api.Block{Op: r.word()}
	s, ok := shapeOf(b.Op)
	r.mustBe(ok && s.isBare() != isOpened)
	if !isOpened || r.isWrong {
		return b
	}
	r.fields(&b, s)
	for range s.kids {
		b.Kids = append(b.Kids, r.block())
	}
	r.mustBe(r.accept(")"))
	return b
}

// fields reads the fields that b has.
func (r *reader) fields(b *api.Block, s shape) {
	if s.ints >= 1 {
		b.N = r.integer()
	}
	if s.ints >= 2 {
		b.M = r.integer()
	}
	if s.hasFormat {
		b.Format = r.format()
	}
	if s.hasName {
		b.Name = r.name()
	}
	for s.hasNums && !r.isWrong && !r.isAhead(")") {
		b.Nums = append(b.Nums, r.number())
	}
}

// mustBe notes what must be so.
func (r *reader) mustBe(ok bool) {
	r.isWrong = r.isWrong || !ok
}

// passBlanks passes spaces and line feeds.
func (r *reader) passBlanks() {
	r.rest = strings.TrimLeft(r.rest, " \n")
}

// isAhead tells whether a bracket comes behind the blanks.
func (r *reader) isAhead(bracket string) bool {
	r.passBlanks()
	return strings.HasPrefix(r.rest, bracket)
}

// accept passes a bracket, if it comes.
func (r *reader) accept(bracket string) bool {
	is := r.isAhead(bracket)
	if is {
		r.rest = r.rest[len(bracket):]
	}
	return is
}

// word reads the bytes up to a blank or a bracket.
func (r *reader) word() string {
	r.passBlanks()
	end := strings.IndexAny(r.rest, " \n()")
	if end < 0 {
		end = len(r.rest)
	}
	return r.take(end)
}

// take reads so many bytes.
func (r *reader) take(n int) string {
	s := r.rest[:n]
	r.rest = r.rest[n:]
	return s
}

// integer reads a whole number as it is written.
func (r *reader) integer() int {
	word := r.word()
	n, err := strconv.Atoi(word)
	r.mustBe(err == nil && strconv.Itoa(n) == word)
	return n
}

// number reads a number, or none, as it is written.
func (r *reader) number() api.Q {
	word := r.word()
	q, err := ratio.Parse(word)
	r.mustBe(err == api.OK && ratio.Text(q) == word)
	return q
}

// name reads a name in quotes.
func (r *reader) name() string {
	word := r.word()
	behind, isOpened := strings.CutPrefix(word, `"`)
	name, isClosed := strings.CutSuffix(behind, `"`)
	r.mustBe(isOpened && isClosed)
	return name
}

// format reads a format, which has brackets of its own.
func (r *reader) format() api.Format {
	r.passBlanks()
	f, err := quant.Parse(r.take(strings.Index(r.rest, ")") + 1))
	r.mustBe(err == api.OK)
	return f
}
