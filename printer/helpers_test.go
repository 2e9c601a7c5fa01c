package printer

import (
	"slices"
	"strings"
	"testing"

	"lispprover/api"
)

func sym(pack, name string) api.Symbol {
	return api.Symbol{Package: pack, Name: name}
}

func atom(pack, name string) api.Object {
	return api.Object{Kind: api.KindSymbol, Sym: sym(pack, name)}
}

func lisp(name string) api.Object {
	return atom("lisp", name)
}

func user(name string) api.Object {
	return atom("user", name)
}

func ratio(n, d string) api.Object {
	return api.Object{Kind: api.KindNumber, Num: n, Den: d}
}

func whole(n string) api.Object {
	return ratio(n, "1")
}

func text(s string) api.Object {
	return api.Object{Kind: api.KindString, Text: s}
}

func cons(a, d api.Object) api.Object {
	return api.Object{Kind: api.KindCons, Pair: []api.Object{a, d}}
}

func list(l ...api.Object) api.Object {
	return dotted(lisp("nil"), l...)
}

// dotted returns the list of these objects that ends with tail.
func dotted(tail api.Object, l ...api.Object) api.Object {
	for i := range l {
		tail = cons(l[len(l)-1-i], tail)
	}
	return tail
}

func quote(o api.Object) api.Object {
	return list(lisp("quote"), o)
}

// nest returns the list of 1 and the list of 1 and .. o, with n lists.
func nest(o api.Object, n int) api.Object {
	for range n {
		o = list(whole("1"), o)
	}
	return o
}

// packages returns lisp, the package user, which imports nil, t, quote and car from lisp, the package b, which imports user::x, and the package c, which imports names that are no words.
func packages() []api.Package {
	return []api.Package{
		{Name: "lisp"},
		{Name: "user", Imports: []api.Symbol{sym("lisp", "nil"), sym("lisp", "t"), sym("lisp", "quote"), sym("lisp", "car")}},
		{Name: "b", Imports: []api.Symbol{sym("user", "x")}},
		{Name: "c", Imports: []api.Symbol{sym("lisp", "12"), sym("lisp", "."), sym("lisp", "x y"), sym("b", "y")}},
	}
}

// brokenObjects returns objects that are not valid.
func brokenObjects() []api.Object {
	circle := cons(whole("1"), lisp("nil"))
	circle.Pair[1] = circle
	shared := list(whole("1"))
	for range 100 {
		shared = cons(shared, shared)
	}
	return []api.Object{
		{}, {Kind: 5}, {Kind: -1}, {Kind: api.KindNumber}, {Kind: api.KindSymbol}, {Kind: api.KindCons},
		ratio("2", "4"), ratio("1", "0"), ratio("1", "-2"), ratio("01", "1"), ratio("", "1"), ratio(many("1", api.MaxDigits+1), "1"),
		lisp(""), lisp(many("n", api.MaxName+1)), atom("", "x"), atom("A", "x"), atom("1", "x"), atom(many("p", api.MaxName+1), "x"),
		text(many("s", api.MaxText+1)),
		{Kind: api.KindString, Text: "a", Num: "1"}, {Kind: api.KindSymbol, Sym: sym("lisp", "t"), Text: "t"}, {Kind: api.KindNumber, Num: "1", Den: "1", Pair: list().Pair, Sym: sym("lisp", "t")},
		{Kind: api.KindCons, Pair: []api.Object{whole("1")}}, {Kind: api.KindCons, Pair: []api.Object{whole("1"), whole("1"), whole("1")}}, {Kind: api.KindSymbol, Sym: sym("lisp", "t"), Pair: []api.Object{whole("1"), whole("1")}},
		list(whole("1"), api.Object{}), dotted(api.Object{}, whole("1")), quote(lisp("")), list(lisp(""), whole("1")),
		nest(list(), api.MaxNodes/4+1), circle, shared,
	}
}

func expectName(t *testing.T, l []api.Package, current string, s api.Symbol, want string) {
	t.Helper()
	if got, err := Name(l, current, s); got != want || err != api.OK {
		t.Errorf("Name of %q in %s: %q, %d, want %q", s, current, got, err, want)
	}
	// a symbol is printed with its name, in one line
	o := api.Object{Kind: api.KindSymbol, Sym: s}
	if got, err := Print(l, current, o); got != want || err != api.OK {
		t.Errorf("Print of %q in %s: %q, %d, want %q", s, current, got, err, want)
	}
	expectLines(t, l, current, o, 0, want)
}

func expectNameError(t *testing.T, l []api.Package, current string, s api.Symbol, want api.Errno) {
	t.Helper()
	if got, err := Name(l, current, s); got != "" || err != want {
		t.Errorf("Name of %q in %s: %q, %d, want the error %d", s, current, got, err, want)
	}
}

// expectPrint expects this text in the package user, on one line if there is room for it.
func expectPrint(t *testing.T, o api.Object, want string) {
	t.Helper()
	expectPrintIn(t, packages(), "user", o, want)
}

func expectPrintIn(t *testing.T, l []api.Package, current string, o api.Object, want string) {
	t.Helper()
	if got, err := Print(l, current, o); got != want || err != api.OK {
		t.Errorf("Print in %s: %q, %d, want %q", current, got, err, want)
	}
	expectLines(t, l, current, o, len(want), want)
}

func expectLines(t *testing.T, l []api.Package, current string, o api.Object, width int, want ...string) {
	t.Helper()
	if got, err := Lines(l, current, o, width); !slices.Equal(got, want) || err != api.OK {
		t.Errorf("Lines in %s with width %d: %q, %d, want %q", current, width, got, err, want)
	}
}

// expectPrintError expects this error of Print and of Lines.
func expectPrintError(t *testing.T, l []api.Package, current string, o api.Object, want api.Errno) {
	t.Helper()
	if got, err := Print(l, current, o); got != "" || err != want {
		t.Errorf("Print in %s: %q, %d, want the error %d", current, got, err, want)
	}
	for _, width := range []int{-1, 0, 5, 10000} {
		if got, err := Lines(l, current, o, width); len(got) != 0 || err != want {
			t.Errorf("Lines in %s: %q, %d, want the error %d", current, got, err, want)
		}
	}
}

// many returns n copies of s.
func many(s string, n int) string {
	return strings.Repeat(s, n)
}

type generator uint64

// next returns a number from 0 to n - 1.
func (g *generator) next(n int) int {
	*g = *g*6364136223846793005 + 1442695040888963407
	return int(uint64(*g) >> 33 % uint64(n))
}
