package reader

import (
	"strings"

	"lispprover/api"
	"lispprover/number"
	"lispprover/symbol"
)

// Token is a token of a text; Pos is the offset of its first byte.
type Token struct {
	Kind    int
	Pos     int
	Package string
	Text    string
	Den     string
}

// The kinds of tokens.
const (
	End    = 0
	Open   = 1
	Close  = 2
	Dot    = 3
	Quote  = 4
	Number = 5
	Symbol = 6
	String = 7
)

// Tokens returns the tokens of s, the last of which is the End.
func Tokens(s string) (tokens []Token, bad api.SourceError) {
	defer func() { bad = reported(recover()) }()
	return scan(s), api.SourceError{}
}

// scan returns the tokens of s.
func scan(s string) []Token {
	if len(s) > api.MaxSource {
		report(api.ErrLimit, 0)
	}
	var tokens []Token
	in := &scanner{text: s}
	for in.skip(); !in.ended(); in.skip() {
		tokens = append(tokens, in.token())
	}
	return append(tokens, Token{Kind: End, Pos: len(s)})
}

// token returns the token that begins here.
func (in *scanner) token() Token {
	start, c := in.pos, in.peek()
	switch {
	case c == '(' || c == ')' || c == '\'':
		in.pos++
		return Token{Kind: markKind(c), Pos: start}
	case c == '"':
		return stringToken(start, in.between('"'))
	case c == '|':
		return symbolToken(start, "", in.between('|'))
	case isConstituent(c):
		return in.wordToken()
	}
	report(api.ErrSyntax, start)
	return Token{}
}

// markKind returns the kind of a token of one byte.
func markKind(c byte) int {
	switch c {
	case '(':
		return Open
	case ')':
		return Close
	}
	return Quote
}

// wordToken returns the token that begins with the word here.
func (in *scanner) wordToken() Token {
	start := in.pos
	word := in.word()
	if in.at("::") {
		in.pos += len("::")
		return symbolToken(start, word, in.name())
	}
	if word == "." {
		return Token{Kind: Dot, Pos: start}
	}
	if num, den, is := fraction(word); is {
		return numberToken(start, num, den)
	}
	return symbolToken(start, "", word)
}

// fraction returns the numerator and the denominator of a word that looks like a number.
func fraction(word string) (num, den string, is bool) {
	digits, isNegative := strings.CutPrefix(word, "-")
	num, den, isBroken := strings.Cut(digits, "/")
	if !isBroken {
		den = "1"
	}
	if !isDigits(num) || !isDigits(den) {
		return "", "", false
	}
	if isNegative {
		return number.Negate(decimal(num)), decimal(den), true
	}
	return decimal(num), decimal(den), true
}

func isDigits(s string) bool {
	return s != "" && strings.Trim(s, "0123456789") == ""
}

// decimal returns the canonical text of the integer with these digits.
func decimal(digits string) string {
	if significant := strings.TrimLeft(digits, "0"); significant != "" {
		return significant
	}
	return "0"
}

// numberToken returns the number num / den in lowest terms.
func numberToken(start int, num, den string) Token {
	if den == "0" {
		report(api.ErrSyntax, start)
	}
	num, den = number.Reduce(num, den)
	if number.Digits(num) > api.MaxDigits || number.Digits(den) > api.MaxDigits {
		report(api.ErrLimit, start)
	}
	return Token{Kind: Number, Pos: start, Text: num, Den: den}
}

// stringToken returns the string with these bytes.
func stringToken(start int, text string) Token {
	if len(text) > api.MaxText {
		report(api.ErrLimit, start)
	}
	return Token{Kind: String, Pos: start, Text: text}
}

// symbolToken returns the symbol with this name and, unless pack is empty, this package.
func symbolToken(start int, pack, name string) Token {
	if len(name) > api.MaxName {
		report(api.ErrLimit, start)
	}
	if name == "" || pack != "" && !symbol.ValidPackage(pack) {
		report(api.ErrName, start)
	}
	return Token{Kind: Symbol, Pos: start, Package: pack, Text: name}
}
