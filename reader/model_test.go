package reader

import (
	"math/big"
	"reflect"
	"regexp"
	"slices"
	"strings"
	"testing"

	"lispprover/api"
)

// A model of the reader: tokens are found by regular expressions, and objects with a stack.

// fibonacci returns two neighbours among the numbers 1, 1, 2, 3, 5, .., the greater of which has at least n digits.
func fibonacci(n int) (string, string) {
	a, b, limit := big.NewInt(1), big.NewInt(1), new(big.Int).Exp(big.NewInt(10), big.NewInt(int64(n-1)), nil)
	for b.Cmp(limit) < 0 {
		a.Add(a, b)
		a, b = b, a
	}
	return a.String(), b.String()
}

type model struct {
	blank, comment, edge, mark, word, number, pack *regexp.Regexp
	quoted                                         map[byte]*regexp.Regexp
}

func newModel() model {
	return model{
		blank:   regexp.MustCompile(`^[ \t\n\r]+`),
		comment: regexp.MustCompile(`^;[^\n]*`),
		edge:    regexp.MustCompile(`#\||\|#`),
		mark:    regexp.MustCompile(`^[()']`),
		word:    regexp.MustCompile(`^[!#-&*-9<-{}~]+`),
		number:  regexp.MustCompile(`^-?[0-9]+(/[0-9]+)?$`),
		pack:    regexp.MustCompile(`^[a-z][a-z0-9-]{0,39}$`),
		quoted: map[byte]*regexp.Regexp{
			'"': regexp.MustCompile(`^"(?:[^"\\]|\\["\\])*`),
			'|': regexp.MustCompile(`^\|(?:[^|\\]|\\[|\\])*`),
		},
	}
}

func failure(err api.Errno, pos int) *api.SourceError {
	return &api.SourceError{Err: err, Pos: pos}
}

// skip returns the offset of the next token.
func (m model) skip(s string, pos int) (int, *api.SourceError) {
	for {
		rest := s[pos:]
		n := len(m.blank.FindString(rest)) + len(m.comment.FindString(rest))
		if strings.HasPrefix(rest, "#|") {
			for depth := 0; ; {
				at := m.edge.FindStringIndex(rest[n:])
				if at == nil {
					return 0, failure(api.ErrEnd, len(s))
				}
				depth += map[string]int{"#|": 1, "|#": -1}[rest[n:][at[0]:at[1]]]
				n += at[1]
				if depth == 0 {
					break
				}
			}
		}
		if n == 0 {
			return pos, nil
		}
		pos += n
	}
}

// between returns the text of a string or of bars, and the offset after it.
func (m model) between(s string, pos int) (string, int, *api.SourceError) {
	found := m.quoted[s[pos]].FindString(s[pos:])
	end := pos + len(found)
	if end == len(s) || s[end] == '\\' && end+1 == len(s) {
		return "", 0, failure(api.ErrEnd, len(s))
	}
	if s[end] == '\\' {
		return "", 0, failure(api.ErrSyntax, end)
	}
	unescaped := strings.NewReplacer(`\\`, `\`, `\`+s[pos:pos+1], s[pos:pos+1]).Replace(found[1:])
	return unescaped, end + 1, nil
}

// token returns the token at pos, and the offset after it.
func (m model) token(s string, pos int) (Token, int, *api.SourceError) {
	rest := s[pos:]
	if found := m.mark.FindString(rest); found != "" {
		return mark(map[string]int{"(": Open, ")": Close, "'": Quote}[found], pos), pos + 1, nil
	}
	if rest[0] == '"' {
		text, end, bad := m.between(s, pos)
		if bad == nil && len(text) > 200 {
			bad = failure(api.ErrLimit, pos)
		}
		return str(pos, text), end, bad
	}
	pack, end := "", pos
	if rest[0] != '|' {
		word := m.word.FindString(rest)
		end = pos + len(word)
		switch {
		case word == "":
			return Token{}, 0, failure(api.ErrSyntax, pos)
		case strings.HasPrefix(s[end:], "::"):
			pack = word
			end += 2
		case word == ".":
			return mark(Dot, pos), end, nil
		case m.number.MatchString(word):
			t, bad := m.fraction(pos, word)
			return t, end, bad
		default:
			return m.symbol(pos, pack, word, end)
		}
	}
	if end == len(s) {
		return Token{}, 0, failure(api.ErrEnd, end)
	}
	if s[end] == '|' {
		text, end, bad := m.between(s, end)
		if bad != nil {
			return Token{}, 0, bad
		}
		return m.symbol(pos, pack, text, end)
	}
	word := m.word.FindString(s[end:])
	if word == "" {
		return Token{}, 0, failure(api.ErrSyntax, end)
	}
	return m.symbol(pos, pack, word, end+len(word))
}

func (m model) symbol(pos int, pack, text string, end int) (Token, int, *api.SourceError) {
	if len(text) > 40 {
		return Token{}, 0, failure(api.ErrLimit, pos)
	}
	if text == "" || pack != "" && !m.pack.MatchString(pack) {
		return Token{}, 0, failure(api.ErrName, pos)
	}
	return sym(pos, pack, text), end, nil
}

func (m model) fraction(pos int, word string) (Token, *api.SourceError) {
	above, below, _ := strings.Cut(word+"/1", "/")
	n, _ := new(big.Int).SetString(above, 10)
	d, _ := new(big.Int).SetString(strings.TrimSuffix(below, "/1"), 10)
	if d.Sign() == 0 {
		return Token{}, failure(api.ErrSyntax, pos)
	}
	r := new(big.Rat).SetFrac(n, d)
	if len(strings.TrimPrefix(r.Num().String(), "-")) > 100 || len(r.Denom().String()) > 100 {
		return Token{}, failure(api.ErrLimit, pos)
	}
	return num(pos, r.Num().String(), r.Denom().String()), nil
}

func (m model) tokens(s string) ([]Token, *api.SourceError) {
	if len(s) > 6000 {
		return nil, failure(api.ErrLimit, 0)
	}
	var tokens []Token
	for pos := 0; ; {
		next, bad := m.skip(s, pos)
		if bad != nil {
			return nil, bad
		}
		if next == len(s) {
			return append(tokens, mark(End, next)), nil
		}
		t, end, bad := m.token(s, next)
		if bad != nil {
			return nil, bad
		}
		tokens, pos = append(tokens, t), end
	}
}

// frame is a list or a quote that is not complete: the objects so far, and for a list how many objects have come after the dot, or -1.
type frame struct {
	isQuote bool
	items   []api.Object
	after   int
}

// value returns the object of a complete frame.
func (f frame) value() api.Object {
	if f.isQuote {
		return quote(f.items[0])
	}
	n, tail := len(f.items), lisp("nil")
	if f.after == 1 {
		n, tail = n-1, f.items[n-1]
	}
	for i := n - 1; i >= 0; i-- {
		tail = cons(f.items[i], tail)
	}
	return tail
}

func size(o api.Object) int {
	n := 1
	for _, part := range o.Pair {
		n += size(part)
	}
	return n
}

// intern returns the symbol of a token, if the package exists.
func intern(l []api.Package, current string, t Token) (api.Object, bool) {
	if t.Package != "" {
		current = t.Package
	}
	for _, p := range l {
		if p.Name != current {
			continue
		}
		for _, s := range p.Imports {
			if s.Name == t.Text {
				return atom(s.Package, s.Name), true
			}
		}
		return atom(current, t.Text), true
	}
	return api.Object{}, false
}

// fits reports whether the token can stand after the frames that are open.
func fits(t Token, open []frame) bool {
	if len(open) == 0 {
		return t.Kind != Close && t.Kind != Dot
	}
	f := open[len(open)-1]
	switch {
	case t.Kind == Dot:
		return !f.isQuote && len(f.items) > 0 && f.after < 0
	case t.Kind == Close:
		return !f.isQuote && f.after != 0
	}
	return f.isQuote || f.after != 1
}

func (m model) read(l []api.Package, current, s string) ([]api.Object, []int, *api.SourceError) {
	tokens, bad := m.tokens(s)
	if bad != nil {
		return nil, nil, bad
	}
	var objects []api.Object
	var starts []int
	var open []frame
	for _, t := range tokens[:len(tokens)-1] {
		if !fits(t, open) {
			return nil, nil, failure(api.ErrSyntax, t.Pos)
		}
		if len(open) == 0 {
			if len(objects) == 100 {
				return nil, nil, failure(api.ErrLimit, t.Pos)
			}
			starts = append(starts, t.Pos)
		}
		var done api.Object
		switch t.Kind {
		case Open, Quote:
			if len(open) > 200 {
				return nil, nil, failure(api.ErrLimit, t.Pos)
			}
			open = append(open, frame{isQuote: t.Kind == Quote, after: -1})
			continue
		case Dot:
			open[len(open)-1].after = 0
			continue
		case Close:
			done = open[len(open)-1].value()
			open = open[:len(open)-1]
		case Number:
			done = ratio(t.Text, t.Den)
		case String:
			done = text(t.Text)
		case Symbol:
			o, is := intern(l, current, t)
			if !is {
				return nil, nil, failure(api.ErrPackage, t.Pos)
			}
			done = o
		}
		for len(open) > 0 && open[len(open)-1].isQuote {
			done = quote(done)
			open = open[:len(open)-1]
		}
		if len(open) > 0 {
			f := &open[len(open)-1]
			f.items = append(f.items, done)
			if f.after >= 0 {
				f.after++
			}
			continue
		}
		if size(done) > 3000 {
			return nil, nil, failure(api.ErrLimit, starts[len(starts)-1])
		}
		objects = append(objects, done)
	}
	if len(open) > 0 {
		return nil, nil, failure(api.ErrEnd, len(s))
	}
	return objects, starts, nil
}

// expectModel compares the three functions with the model, and returns the error of Read.
func expectModel(t *testing.T, m model, l []api.Package, current, s string) api.SourceError {
	t.Helper()
	tokens, bad := m.tokens(s)
	if got, err := Tokens(s); !slices.Equal(got, tokens) || err != orNone(bad) {
		t.Errorf("Tokens(%q): %+v, %v, want %+v, %v", s, got, err, tokens, orNone(bad))
	}
	objects, starts, bad := m.read(l, current, s)
	if got, err := Read(l, current, s); !isSame(got, objects) || err != orNone(bad) {
		t.Errorf("Read(%q): %+v, %v, want %+v, %v", s, got, err, objects, orNone(bad))
	}
	want, oneBad := api.Object{}, bad
	switch {
	case bad != nil:
	case len(objects) == 0:
		oneBad = failure(api.ErrEnd, len(s))
	case len(objects) > 1:
		oneBad = failure(api.ErrSyntax, starts[1])
	default:
		want = objects[0]
	}
	if got, err := One(l, current, s); !reflect.DeepEqual(got, want) || err != orNone(oneBad) {
		t.Errorf("One(%q): %+v, %v, want %+v, %v", s, got, err, want, orNone(oneBad))
	}
	return orNone(bad)
}

func orNone(bad *api.SourceError) api.SourceError {
	if bad == nil {
		return api.SourceError{}
	}
	return *bad
}
