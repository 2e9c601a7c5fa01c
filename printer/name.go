package printer

import (
	"strings"

	"lispprover/api"
	"lispprover/reader"
	"lispprover/symbol"
)

// The rows of escaped.
const (
	inString = iota
	inBars
)

// escaped lists the bytes that need an escape; the first one of a row is also the mark at both ends.
var escaped = [...]string{
	inString: `"\`,
	inBars:   `|\`,
}

// nameText returns the text of a symbol that is Home.
func nameText(l []api.Package, current string, s api.Symbol) string {
	prefix := ""
	if !symbol.Visible(l, current, s) {
		prefix = s.Package + "::"
	}
	if isWord(prefix, s.Name) {
		return prefix + s.Name
	}
	return prefix + enclose(inBars, s.Name)
}

// isWord reports whether the reader takes the name, after this prefix, for a symbol with just these letters.
func isWord(prefix, name string) bool {
	tokens, bad := reader.Tokens(prefix + name)
	return bad.Err == api.OK && tokens[0].Kind == reader.Symbol && tokens[0].Text == name
}

// enclose returns s between two marks, with a backslash before each letter that needs one.
func enclose(row int, s string) string {
	mark := escaped[row][0]
	text := []byte{mark}
	done := 0
	for i, letter := range s {
		if strings.ContainsRune(escaped[row], letter) {
			// The bytes are copied, since some of them may be part of no letter.
			text = append(text, s[done:i]...)
			text = append(text, '\\')
			done = i
		}
	}
	text = append(text, s[done:]...)
	return string(append(text, mark))
}
