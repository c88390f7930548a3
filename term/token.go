package term

import (
	"strings"

	"serinette/api"
)

// sort tells what a token is.
type sort int

const (
	noToken sort = iota
	end
	fixed // a sign or a word
	name
	number
	text
)

// token is a token of a source as it stands there, or what stands there and is none, or the end.
type token struct {
	sort  sort
	text  string
	place int
}

// operators are the signs of operators, and the Texts of their terms.
var operators = [...]struct{ sign, text string }{
	{"+", "add"}, {"-", "sub"}, {"*", "mul"}, {"/", "div"}, {"%", "mod"},
	{"<", "lt"}, {"<=", "le"}, {"==", "eq"}, {"!=", "ne"},
	{"&", "and"}, {"|", "or"}, {"^", "xor"}, {"<<", "shl"}, {">>", "shr"},
}

// joints are the signs that join two terms, the ops of what they make, and how tightly they hold.
var joints = [...]struct {
	sign, op string
	hold     int
}{
	{"<:", "split", 1}, {":>", "merge", 1}, {":", "seq", 2}, {",", "par", 3}, {"~", "rec", 4},
}

// operatorOf returns the Text of an operator; false: the sign is none of one.
func operatorOf(sign string) (string, bool) {
	for _, o := range operators {
		if o.sign == sign {
			return o.text, true
		}
	}
	return "", false
}

// signOf returns the sign of an operator; false: there is none of this Text.
func signOf(text string) (string, bool) {
	for _, o := range operators {
		if o.text == text {
			return o.sign, true
		}
	}
	return "", false
}

// jointOf returns what a sign that joins two terms makes of them, and how tightly it holds; 0: it joins none.
func jointOf(sign string) (op string, hold int) {
	for _, j := range joints {
		if j.sign == sign {
			return j.op, j.hold
		}
	}
	return "", 0
}

// joining returns the sign that makes this op of two terms; false: none does.
func joining(op string) (string, bool) {
	for _, j := range joints {
		if j.op == op {
			return j.sign, true
		}
	}
	return "", false
}

// isSign tells whether s is a sign.
func isSign(s string) bool {
	switch s {
	case "(", ")", "{", "}", "[", "]", "=", ";", ".", `\`, "=>", "_", "!":
		return true
	}
	_, hold := jointOf(s)
	_, isOperator := operatorOf(s)
	return hold > 0 || isOperator
}

// isWord tells whether s is a word, which is no name.
func isWord(s string) bool {
	switch s {
	case "par", "seq", "sum", "with", "case", "env":
		return true
	}
	return false
}

// isName tells whether s is a name.
func isName(s string) bool {
	return s != "" && len(s) <= api.MaxName && isLetter(s[0]) && count(s, isNameByte) == len(s) && !isWord(s)
}

// isText tells whether a text may hold s.
func isText(s string) bool {
	return len(s) <= api.MaxName && count(s, isTextByte) == len(s)
}

func isLetter(c byte) bool {
	return 'a' <= c && c <= 'z' || 'A' <= c && c <= 'Z'
}

func isDigit(c byte) bool {
	return '0' <= c && c <= '9'
}

func isNameByte(c byte) bool {
	return isLetter(c) || isDigit(c) || c == '_'
}

func isTextByte(c byte) bool {
	return ' ' <= c && c <= '~' && c != '"'
}

// count returns how many bytes are such, from the beginning on.
func count(s string, isSuch func(c byte) bool) int {
	for i := range len(s) {
		if !isSuch(s[i]) {
			return i
		}
	}
	return len(s)
}

// tokenFrom returns the first token from a place on.
func tokenFrom(source string, from int) token {
	place := behindBlanks(source, from)
	rest := source[place:]
	switch {
	case rest == "":
		return token{sort: end, place: place}
	case isLetter(rest[0]):
		return nameAt(source, place)
	case isDigit(rest[0]):
		return token{number, rest[:numberLength(rest)], place}
	case rest[0] == '"':
		return textAt(source, place)
	}
	return signAt(source, place)
}

// behindBlanks returns the first place from one on at which no blank and no comment stands.
func behindBlanks(source string, place int) int {
	for place < len(source) {
		rest := source[place:]
		switch {
		case rest[0] == ' ' || rest[0] == '\t' || rest[0] == '\n':
			place++
		case strings.HasPrefix(rest, "//"):
			comment, _, _ := strings.Cut(rest, "\n")
			place += len(comment)
		default:
			return place
		}
	}
	return place
}

// nameAt returns the name or word at a place where a letter stands.
func nameAt(source string, place int) token {
	rest := source[place:]
	s := rest[:count(rest, isNameByte)]
	switch {
	case isWord(s):
		return token{fixed, s, place}
	case isName(s):
		return token{name, s, place}
	}
	return token{place: place}
}

// numberLength returns how many of the bytes are of the number with which s begins.
func numberLength(s string) int {
	n := count(s, isDigit)
	if n < len(s) && (s[n] == '.' || s[n] == '/') {
		if more := count(s[n+1:], isDigit); more > 0 {
			return n + 1 + more
		}
	}
	return n
}

// textAt returns the text, with its quotes, at a place where a quote stands.
func textAt(source string, place int) token {
	s, _, isClosed := strings.Cut(source[place+1:], `"`)
	if !isClosed || !isText(s) {
		return token{place: place}
	}
	return token{text, `"` + s + `"`, place}
}

// signAt returns the longest sign at a place.
func signAt(source string, place int) token {
	rest := source[place:]
	for length := min(2, len(rest)); length > 0; length-- {
		if s := rest[:length]; isSign(s) && !(s == "_" && isTouched(source, place)) {
			return token{fixed, s, place}
		}
	}
	return token{place: place}
}

// isTouched tells whether a byte of a name stands right beside a place.
func isTouched(source string, place int) bool {
	return place > 0 && isNameByte(source[place-1]) || place+1 < len(source) && isNameByte(source[place+1])
}
