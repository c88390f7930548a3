package span

import (
	"strconv"

	"serinette/api"
	"serinette/ratio"
)

// Text returns [LO,HI]/DEN, or [] if s has no numbers, and none behind if it has none.
func Text(s api.Span) string {
	s = known(s)
	text := "[]"
	if !s.Empty {
		text = "[" + endText(s.Lo) + "," + endText(s.Hi) + "]/" + strconv.FormatInt(s.Den, 10)
	}
	if s.None {
		text += " none"
	}
	return text
}

// endText returns the text of an end; an open one is a star.
func endText(q api.Q) string {
	if isOpen(q) {
		return "*"
	}
	return ratio.Text(q)
}
