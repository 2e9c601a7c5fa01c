package ordinal

import (
	"slices"
	"strconv"
	"strings"
	"testing"

	"lispprover/api"
)

// The following functions write ordinals, and objects that are nearly ordinals, down without the functions under test.

func num(n, d string) api.Object {
	return api.Object{Kind: api.KindNumber, Num: n, Den: d}
}

func fin(n int) api.Object {
	return num(strconv.Itoa(n), "1")
}

func sym(pack, name string) api.Object {
	return api.Object{Kind: api.KindSymbol, Sym: api.Symbol{Package: pack, Name: name}}
}

func str(s string) api.Object {
	return api.Object{Kind: api.KindString, Text: s}
}

func pair(l ...api.Object) api.Object {
	return api.Object{Kind: api.KindCons, Pair: l}
}

// w returns w^e * c + rest.
func w(e, c, rest api.Object) api.Object {
	return pair(pair(e, c), rest)
}

// ww returns w^e * c + rest, where all of them are finite.
func ww(e, c, rest int) api.Object {
	return w(fin(e), fin(c), fin(rest))
}

// omega returns w.
func omega() api.Object {
	return ww(1, 1, 0)
}

// row returns w^from + .. + w^to + rest, where from is not less than to.
func row(from, to int, rest api.Object) api.Object {
	o := rest
	for e := to; e <= from; e++ {
		o = w(fin(e), fin(1), o)
	}
	return o
}

// tower returns w^(w^( .. ^o)), of n powers.
func tower(n int, o api.Object) api.Object {
	for range n {
		o = w(o, fin(1), fin(0))
	}
	return o
}

// nines returns the finite ordinal of n digits 9.
func nines(n int) api.Object {
	return num(strings.Repeat("9", n), "1")
}

// ten returns 10^n.
func ten(n int) api.Object {
	return num("1"+strings.Repeat("0", n), "1")
}

// mostTerms is how many terms with a finite exponent an ordinal has room for: four nodes each, and one for the last rest.
const mostTerms = (api.MaxNodes - 1) / 4

// isSame compares two finite objects by another way than object.Equal.
func isSame(a, b api.Object) bool {
	return a.Kind == b.Kind && a.Num == b.Num && a.Den == b.Den && a.Sym == b.Sym && a.Text == b.Text && slices.EqualFunc(a.Pair, b.Pair, isSame)
}

// show returns a text for messages.
func show(o api.Object) string {
	if o.Kind == api.KindCons && len(o.Pair) == 2 {
		return showPair(o, 6)
	}
	return "{" + strconv.Itoa(o.Kind) + " " + o.Num + "/" + o.Den + " " + o.Sym.Package + "::" + o.Sym.Name + " " + strconv.Quote(o.Text) + " " + strconv.Itoa(len(o.Pair)) + "}"
}

func showPair(o api.Object, levels int) string {
	if o.Kind != api.KindCons || len(o.Pair) != 2 {
		if o.Kind == api.KindNumber && o.Den == "1" {
			return o.Num
		}
		return show(o)
	}
	if levels == 0 {
		return ".."
	}
	return "(" + showPair(o.Pair[0], levels-1) + " . " + showPair(o.Pair[1], levels-1) + ")"
}

func expect(t *testing.T, what string, got, want api.Object) {
	t.Helper()
	if !isSame(got, want) {
		t.Errorf("%s: got %s, want %s", what, show(got), show(want))
	}
}

// expectValue expects got and true.
func expectValue(t *testing.T, what string, got api.Object, ok bool, want api.Object) {
	t.Helper()
	if !ok {
		t.Errorf("%s: false, want %s", what, show(want))
	}
	expect(t, what, got, want)
}

// expectNone expects the zero object and false.
func expectNone(t *testing.T, what string, got api.Object, ok bool) {
	t.Helper()
	if ok {
		t.Errorf("%s: true, want false", what)
	}
	expect(t, what, got, api.Object{})
}

// ladder returns ordinals in ascending order: all sums of a few powers with the coefficients 0 to 2, and of a finite ordinal.
func ladder() []api.Object {
	exponents := []api.Object{fin(1), fin(2), omega(), w(omega(), fin(2), fin(1))}
	l := []api.Object{fin(0), fin(1), fin(12)}
	for _, e := range exponents {
		lower := l
		for c := 1; c <= 2; c++ {
			for _, rest := range lower {
				l = append(l, w(e, fin(c), rest))
			}
		}
	}
	return l
}

// further returns ordinals in ascending order, most of which differ from their neighbours in one place, and the largest that the limits allow.
func further() []api.Object {
	return []api.Object{
		fin(0), fin(1), fin(2), fin(9), fin(10), nines(api.MaxDigits - 1), nines(api.MaxDigits),
		omega(), ww(1, 1, 1), ww(1, 1, 10), w(fin(1), fin(1), nines(100)), ww(1, 2, 0), ww(1, 9, 5), ww(1, 10, 0), w(fin(1), nines(100), fin(0)),
		ww(2, 1, 0), ww(2, 1, 1), w(fin(2), fin(1), omega()), w(fin(2), fin(1), ww(1, 1, 1)), w(fin(2), fin(1), ww(1, 3, 0)), ww(2, 2, 0), ww(3, 1, 0),
		ww(9, 1, 0), w(fin(9), fin(1), ww(8, 100, 100)), ww(10, 1, 0), row(mostTerms, 1, fin(0)), w(nines(100), nines(100), nines(100)),
		w(omega(), fin(1), fin(0)), w(omega(), fin(1), w(nines(100), fin(7), fin(7))), w(omega(), fin(2), fin(0)),
		w(ww(1, 1, 1), fin(1), fin(0)), w(ww(1, 1, 1), fin(1), w(omega(), fin(5), fin(0))), w(ww(1, 2, 0), fin(1), fin(0)), w(ww(2, 1, 0), fin(1), fin(0)),
		tower(2, omega()), w(tower(2, fin(1)), fin(2), fin(0)), tower(3, fin(2)), tower(4, fin(1)), tower(mostTerms, fin(1)),
	}
}
