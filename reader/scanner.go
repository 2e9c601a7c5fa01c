package reader

import (
	"strings"

	"lispprover/api"
)

// scanner goes through a text from left to right.
type scanner struct {
	text string
	pos  int
}

func (in *scanner) ended() bool {
	return in.pos == len(in.text)
}

// at reports whether the text goes on with these bytes.
func (in *scanner) at(next string) bool {
	return strings.HasPrefix(in.text[in.pos:], next)
}

// peek returns the next byte; the text must not end here.
func (in *scanner) peek() byte {
	if in.ended() {
		report(api.ErrEnd, in.pos)
	}
	return in.text[in.pos]
}

// skip goes on to the next byte that is neither a blank nor in a comment.
func (in *scanner) skip() {
	for !in.ended() {
		switch {
		case isBlank(in.peek()):
			in.pos++
		case in.at(";"):
			in.skipLine()
		case in.at("#|"):
			in.skipNested()
		default:
			return
		}
	}
}

// skipLine goes on to the end of the line.
func (in *scanner) skipLine() {
	for !in.ended() && !in.at("\n") {
		in.pos++
	}
}

// skipNested goes on to the end of the comment that begins with the two bytes here, and of those nested in it.
func (in *scanner) skipNested() {
	in.pos += len("#|")
	for depth := 1; depth > 0; {
		switch {
		case in.at("#|"):
			in.pos += len("#|")
			depth++
		case in.at("|#"):
			in.pos += len("|#")
			depth--
		default:
			in.peek()
			in.pos++
		}
	}
}

// word goes through the constituents here, and returns them.
func (in *scanner) word() string {
	start := in.pos
	for !in.ended() && isConstituent(in.peek()) {
		in.pos++
	}
	return in.text[start:in.pos]
}

// name goes through the second part of a symbol with a package, and returns the name for which it stands.
func (in *scanner) name() string {
	c := in.peek()
	if c == '|' {
		return in.between('|')
	}
	if !isConstituent(c) {
		report(api.ErrSyntax, in.pos)
	}
	return in.word()
}

// between goes on from the mark here to after the next mark, and returns the bytes for which the bytes between them stand.
func (in *scanner) between(mark byte) string {
	var bytes []byte
	in.pos++
	for in.peek() != mark {
		if in.peek() == '\\' {
			in.skipEscape(mark)
		}
		bytes = append(bytes, in.peek())
		in.pos++
	}
	in.pos++
	return string(bytes)
}

// skipEscape goes on from the backslash here to the byte that it precedes: a mark or another backslash.
func (in *scanner) skipEscape(mark byte) {
	start := in.pos
	in.pos++
	if c := in.peek(); c != mark && c != '\\' {
		report(api.ErrSyntax, start)
	}
}

func isBlank(c byte) bool {
	return c == ' ' || c == '\t' || c == '\n' || c == '\r'
}

func isConstituent(c byte) bool {
	return c > ' ' && c <= '~' && strings.IndexByte(`()'";|:`, c) < 0
}
