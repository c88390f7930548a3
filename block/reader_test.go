package block_test

import (
	"math/big"
	"regexp"
	"slices"
	"strconv"
	"strings"
	"testing"

	"serinette/api"
	"serinette/block"
)

// The forms of tokens, by the chapter's words.
var (
	tokenForm  = regexp.MustCompile(`\A([ \n]*)(\(|\)|(?:fix|float)\([^ \n()]*\)|[^ \n()]+)`)
	intForm    = regexp.MustCompile(`\A(0|[1-9][0-9]{0,5})\z`)
	numberForm = regexp.MustCompile(`\A-?[0-9]+(/[0-9]+)?\z`)
	formatForm = regexp.MustCompile(`\A(fix|float)\((0|[1-9][0-9]?),(0|[1-9][0-9]?),([a-z]+),([a-z]+)\)\z`)
)

// item is a word, or what stands in brackets.
type item struct {
	word   string
	isList bool
	list   []item
}

// tokensOf returns the tokens of a text; false: it has none, or two words run into one another.
func tokensOf(text string) (l []string, ok bool) {
	text = strings.TrimRight(text, " \n")
	wasWord := false
	for text != "" {
		m := tokenForm.FindStringSubmatch(text)
		isWord := m[2] != "(" && m[2] != ")"
		if isWord && wasWord && m[1] == "" {
			return nil, false
		}
		l = append(l, m[2])
		wasWord = isWord
		text = text[len(m[0]):]
	}
	return l, len(l) > 0
}

// itemOf returns the item with which tokens begin, and the tokens behind it.
func itemOf(tokens []string) (i item, rest []string, ok bool) {
	if len(tokens) == 0 || tokens[0] == ")" {
		return item{}, nil, false
	}
	if tokens[0] != "(" {
		return item{word: tokens[0]}, tokens[1:], true
	}
	i.isList = true
	for tokens = tokens[1:]; len(tokens) > 0 && tokens[0] != ")"; {
		inner, behind, ok := itemOf(tokens)
		if !ok {
			return item{}, nil, false
		}
		i.list, tokens = append(i.list, inner), behind
	}
	if len(tokens) == 0 {
		return item{}, nil, false
	}
	return i, tokens[1:], true
}

// blockOf returns the block that an item is.
func blockOf(i item) (b api.Block, ok bool) {
	if !i.isList {
		return leaf(i.word), slices.Contains(plainOps(), i.word)
	}
	if len(i.list) == 0 || i.list[0].isList {
		return b, false
	}
	b.Op = i.list[0].word
	_, _, fields, ok := rowOf(b.Op)
	if !ok || len(fields) == 0 {
		return b, false
	}
	rest := i.list[1:]
	for _, field := range fields {
		switch field {
		case "Kids1", "Kids2":
			for _, inner := range rest {
				kid, ok := blockOf(inner)
				if !ok {
					return b, false
				}
				b.Kids = append(b.Kids, kid)
			}
			return b, true
		case "Nums":
			for _, inner := range rest {
				v, ok := numberOf(inner)
				if !ok {
					return b, false
				}
				b.Nums = append(b.Nums, v)
			}
			return b, true
		}
		if len(rest) == 0 || rest[0].isList || !hasField(&b, field, rest[0].word) {
			return b, false
		}
		rest = rest[1:]
	}
	return b, len(rest) == 0
}

// numberOf returns the number that an item is.
func numberOf(i item) (api.Q, bool) {
	if i.word == "none" {
		return none, true
	}
	if i.isList || !numberForm.MatchString(i.word) || strings.Contains(i.word, "/0") {
		return none, false
	}
	r, ok := new(big.Rat).SetString(i.word)
	if !ok || r.RatString() != i.word || r.Num().BitLen() > 62 || r.Denom().BitLen() > 62 {
		return none, false
	}
	return api.Q{N: r.Num().Int64(), D: r.Denom().Int64()}, true
}

// hasField gives b the field that a word is; false: it is none.
func hasField(b *api.Block, field, word string) bool {
	switch field {
	case "N", "M":
		n, _ := strconv.Atoi(word)
		if field == "N" {
			b.N = n
		} else {
			b.M = n
		}
		return intForm.MatchString(word)
	case "Name":
		b.Name = strings.Trim(word, `"`)
		return word == `"`+b.Name+`"`
	}
	m := formatForm.FindStringSubmatch(word)
	if m == nil {
		return false
	}
	i, _ := strconv.Atoi(m[2])
	f, _ := strconv.Atoi(m[3])
	b.Format = format(m[1], i, f, m[4], m[5])
	return true
}

// readByWords returns what Parse returns, by the chapter's words.
func readByWords(text string) (api.Block, api.Errno) {
	if len(text) > 8000 {
		return api.Block{}, api.ErrLimit
	}
	tokens, ok := tokensOf(text)
	if !ok {
		return api.Block{}, api.ErrForm
	}
	i, rest, ok := itemOf(tokens)
	if !ok || len(rest) > 0 {
		return api.Block{}, api.ErrForm
	}
	b, ok := blockOf(i)
	if !ok || !isValid(b) {
		return api.Block{}, api.ErrForm
	}
	return b, api.OK
}

// checkParse holds Parse of a text against the chapter's words; it tells whether it is read.
func checkParse(t *testing.T, text string) bool {
	t.Helper()
	want, wantErr := readByWords(text)
	got, err := block.Parse(text)
	if err != wantErr || !same(got, want) {
		t.Errorf("Parse(%q): got %.300s, %v, want %.300s, %v", text, dump(got), err, dump(want), wantErr)
	}
	return err == api.OK
}

// P5.3: the texts that differ from one of a block by a byte.
func TestParseOfChangedTexts(t *testing.T) {
	const bytes = " \n\t()\",/-_.+0129aenrtwfix\x00\xff"
	count := map[bool]int{}
	for text := range written() {
		if len(text) > 60 {
			continue
		}
		for at := range len(text) + 1 {
			for _, c := range []byte(bytes) {
				count[checkParse(t, text[:at]+string([]byte{c})+text[at:])]++
				if at < len(text) {
					count[checkParse(t, text[:at]+string([]byte{c})+text[at+1:])]++
				}
			}
			if at < len(text) {
				count[checkParse(t, text[:at]+text[at+1:])]++
				count[checkParse(t, text[:at])]++
			}
		}
	}
	if count[true] < 1000 || count[false] < 10000 {
		t.Errorf("too few on one side: %v", count)
	}
}

// P5.3: drawn blocks as tokens with drawn blanks, and with tokens changed.
func TestParseOfDrawnTexts(t *testing.T) {
	c := chance(5)
	count := map[bool]int{}
	for range 20000 {
		tokens, _ := tokensOf(mustText(t, c.block(1+c.of(5))))
		if c.of(3) > 0 {
			tokens = c.changed(tokens)
		}
		count[checkParse(t, c.spaced(tokens))]++
	}
	if count[true] < 3000 || count[false] < 3000 {
		t.Errorf("too few on one side: %v", count)
	}
}

// changed returns tokens of which one is left out, put in, or put for another.
func (c *chance) changed(tokens []string) []string {
	l := slices.Clone(tokens)
	at := c.of(len(l))
	other := among(c, "(", ")", "wire", "add", "num", "seq", "gate", "up", "fit", "show", "table", "1", "-1", "0", "2/4", "1/2", "none", `"a"`, `"`, "fix(1,2,near,sat)", "fix(1,2,near)", l[c.of(len(l))])
	switch c.of(3) {
	case 0:
		return slices.Delete(l, at, at+1)
	case 1:
		return slices.Insert(l, at, other)
	}
	l[at] = other
	return l
}

// spaced returns tokens with drawn blanks around them, now and then with none where one must stand.
func (c *chance) spaced(tokens []string) string {
	var w strings.Builder
	for i, token := range tokens {
		isBracket := func(s string) bool { return s == "(" || s == ")" }
		if needs := i > 0 && !isBracket(token) && !isBracket(tokens[i-1]); needs && c.of(300) > 0 {
			w.WriteString(among(c, " ", "\n"))
		}
		w.WriteString(among(c, "", "", "", " ", "\n", " \n "))
		w.WriteString(token)
	}
	w.WriteString(among(c, "", " ", "\n\n"))
	return w.String()
}

// mustText returns the text of a valid block.
func mustText(t *testing.T, b api.Block) string {
	t.Helper()
	text, err := block.Text(b)
	if err != api.OK {
		t.Fatalf("Text of %.200s: %v", dump(b), err)
	}
	return text
}
