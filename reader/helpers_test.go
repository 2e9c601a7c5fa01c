package reader

import (
	"reflect"
	"slices"
	"strings"
	"testing"

	"lispprover/api"
)

// tokens

func mark(kind, pos int) Token {
	return Token{Kind: kind, Pos: pos}
}

func num(pos int, text, den string) Token {
	return Token{Kind: Number, Pos: pos, Text: text, Den: den}
}

func sym(pos int, pack, text string) Token {
	return Token{Kind: Symbol, Pos: pos, Package: pack, Text: text}
}

func str(pos int, text string) Token {
	return Token{Kind: String, Pos: pos, Text: text}
}

// expectTokens expects these tokens, and after them the End.
func expectTokens(t *testing.T, s string, want ...Token) {
	t.Helper()
	want = append(slices.Clone(want), mark(End, len(s)))
	if got, bad := Tokens(s); !slices.Equal(got, want) || bad != (api.SourceError{}) {
		t.Errorf("Tokens(%q): %+v, %v, want %+v", s, got, bad, want)
	}
}

func expectTokensError(t *testing.T, s string, err api.Errno, pos int) {
	t.Helper()
	if got, bad := Tokens(s); len(got) != 0 || bad != (api.SourceError{Err: err, Pos: pos}) {
		t.Errorf("Tokens(%q): %+v, %v, want the error %d at %d", s, got, bad, err, pos)
	}
	// an error in the tokens is the error of the other functions, too
	expectReadError(t, s, err, pos)
}

// objects

func atom(pack, name string) api.Object {
	return api.Object{Kind: api.KindSymbol, Sym: api.Symbol{Package: pack, Name: name}}
}

func lisp(name string) api.Object {
	return atom("lisp", name)
}

func user(name string) api.Object {
	return atom("user", name)
}

func ratio(n, d string) api.Object {
	return api.Object{Kind: api.KindNumber, Num: n, Den: d}
}

func text(s string) api.Object {
	return api.Object{Kind: api.KindString, Text: s}
}

func cons(a, d api.Object) api.Object {
	return api.Object{Kind: api.KindCons, Pair: []api.Object{a, d}}
}

func list(l ...api.Object) api.Object {
	if len(l) == 0 {
		return lisp("nil")
	}
	return cons(l[0], list(l[1:]...))
}

func quote(o api.Object) api.Object {
	return list(lisp("quote"), o)
}

// numbers returns the list of n times the number 1 that ends with tail.
func numbers(n int, tail api.Object) api.Object {
	for range n {
		tail = cons(ratio("1", "1"), tail)
	}
	return tail
}

// nest returns the list of the list of .. of o, with n lists.
func nest(o api.Object, n int) api.Object {
	for range n {
		o = list(o)
	}
	return o
}

// packages returns lisp, the package user, which imports nil, t and car from lisp, and b, which imports user::x.
func packages() []api.Package {
	return []api.Package{
		{Name: "lisp"},
		{Name: "user", Imports: []api.Symbol{{Package: "lisp", Name: "nil"}, {Package: "lisp", Name: "t"}, {Package: "lisp", Name: "car"}}},
		{Name: "b", Imports: []api.Symbol{{Package: "user", Name: "x"}}},
	}
}

func isSame(a, b []api.Object) bool {
	return len(a) == 0 && len(b) == 0 || reflect.DeepEqual(a, b)
}

// expectRead expects that s consists of these objects in the package user.
func expectRead(t *testing.T, s string, want ...api.Object) {
	t.Helper()
	expectReadIn(t, packages(), "user", s, want...)
}

func expectReadIn(t *testing.T, l []api.Package, current, s string, want ...api.Object) {
	t.Helper()
	if got, bad := Read(l, current, s); !isSame(got, want) || bad != (api.SourceError{}) {
		t.Errorf("Read(%q) in %s: %+v, %v, want %+v", s, current, got, bad, want)
	}
	if len(want) == 1 {
		if got, bad := One(l, current, s); !reflect.DeepEqual(got, want[0]) || bad != (api.SourceError{}) {
			t.Errorf("One(%q) in %s: %+v, %v, want %+v", s, current, got, bad, want[0])
		}
	}
}

// expectReadError expects this error of Read and of One.
func expectReadError(t *testing.T, s string, err api.Errno, pos int) {
	t.Helper()
	expectReadErrorIn(t, packages(), "user", s, err, pos)
}

func expectReadErrorIn(t *testing.T, l []api.Package, current, s string, err api.Errno, pos int) {
	t.Helper()
	if got, bad := Read(l, current, s); len(got) != 0 || bad != (api.SourceError{Err: err, Pos: pos}) {
		t.Errorf("Read(%q) in %s: %+v, %v, want the error %d at %d", s, current, got, bad, err, pos)
	}
	expectOneErrorIn(t, l, current, s, err, pos)
}

func expectOneErrorIn(t *testing.T, l []api.Package, current, s string, err api.Errno, pos int) {
	t.Helper()
	if got, bad := One(l, current, s); !reflect.DeepEqual(got, api.Object{}) || bad != (api.SourceError{Err: err, Pos: pos}) {
		t.Errorf("One(%q) in %s: %+v, %v, want the error %d at %d", s, current, got, bad, err, pos)
	}
}

// many returns n copies of s.
func many(s string, n int) string {
	return strings.Repeat(s, n)
}

type generator uint64

// next returns a number from 0 to n - 1.
func (g *generator) next(n int) int {
	*g = *g*6364136223846793005 + 1442695040888963407
	return int(uint64(*g) >> 33 % uint64(n))
}
