package ordinal

import (
	"slices"

	"lispprover/api"
)

// wrongParts are valid objects that are not ordinals.
func wrongParts() []api.Object {
	one, zero, null := fin(1), fin(0), sym("lisp", "nil")
	return []api.Object{
		// not numbers or conses
		null, sym("lisp", "t"), sym("ordinal", "w"), str(""), str("1"), str("w"),
		// numbers that are not finite ordinals
		fin(-1), fin(-7), num("1", "2"), num("-1", "2"), num("7", "3"), num("-"+nines(api.MaxDigits).Num, "1"),
		// conses of another shape
		pair(one, one), pair(one, null), pair(zero, zero), pair(null, null), pair(one, pair(one, one)), pair(str("w"), zero), pair(fin(-1), zero),
		pair(omega(), null), w(one, pair(one, null), zero), pair(pair(one, pair(one, null)), zero),
		// an exponent 0
		w(zero, one, zero), ww(0, 5, 3), ww(0, 1, 1), w(zero, one, ww(0, 1, 0)), w(one, one, ww(0, 1, 0)), w(fin(2), one, w(one, one, ww(0, 2, 1))),
		// an exponent that is not an ordinal
		w(fin(-1), one, zero), w(num("1", "2"), one, zero), w(null, one, zero), w(str("w"), one, zero), w(pair(one, one), one, zero), w(ww(0, 1, 0), one, zero), w(w(one, one, omega()), one, zero), w(tower(3, fin(0)), one, zero),
		// a coefficient that is not a positive integer
		ww(1, 0, 0), ww(1, -1, 0), ww(1, -3, 4), w(one, num("1", "2"), zero), w(one, num("-3", "2"), zero), w(one, null, zero), w(one, str("1"), zero), w(one, omega(), zero), w(one, pair(one, one), zero),
		w(fin(2), one, ww(1, 0, 1)), w(fin(2), one, ww(1, -1, 1)), w(ww(1, 0, 0), one, zero), w(omega(), fin(0), omega()),
		// a rest that is not an ordinal
		ww(1, 1, -1), w(one, one, num("1", "2")), w(one, one, null), w(one, one, str("")), w(fin(2), one, pair(one, zero)), w(fin(2), one, w(one, one, null)),
		// a rest whose exponent is equal to the exponent
		w(one, one, omega()), w(one, fin(2), omega()), w(one, one, ww(1, 2, 0)), w(fin(3), one, w(fin(3), one, omega())), w(omega(), one, tower(2, one)), w(ww(1, 2, 3), one, w(ww(1, 2, 3), one, zero)),
		// a rest whose exponent is greater
		w(one, one, ww(2, 1, 0)), w(one, fin(5), w(fin(2), one, omega())), w(fin(9), one, ww(10, 1, 0)), w(fin(2), one, tower(2, one)), w(omega(), one, w(ww(1, 1, 1), one, zero)), w(omega(), one, w(ww(1, 2, 0), one, zero)), w(omega(), one, w(ww(2, 1, 0), one, zero)), w(tower(2, one), one, tower(4, one)),
		// the same further down
		w(fin(4), one, w(fin(2), one, ww(3, 1, 0))), w(fin(4), one, w(fin(3), one, ww(3, 1, 0))), w(w(one, one, ww(2, 1, 0)), one, zero), w(w(omega(), one, w(fin(2), one, ww(2, 1, 0))), one, zero), tower(9, w(one, one, omega())), row(40, 20, row(30, 1, zero)),
	}
}

// notObjects are objects that would be ordinals if they were valid, and others that are not valid.
func notObjects() []api.Object {
	one, zero := fin(1), fin(0)
	return []api.Object{
		{}, {Num: "1", Den: "1"}, {Kind: 5, Num: "1", Den: "1"}, {Kind: -1}, {Kind: api.KindNumber}, {Kind: api.KindCons}, {Pair: omega().Pair},
		num("2", "2"), num("0", "2"), num("-1", "-1"), num("1", "-1"), num("1", "0"), num("01", "1"), num("-0", "1"), num("+1", "1"), num("", "1"), num("1", ""), num("x", "1"), num("1.0", "1"),
		{Kind: api.KindNumber, Num: "1", Den: "1", Text: "x"}, {Kind: api.KindNumber, Num: "0", Den: "1", Sym: api.Symbol{Name: "x"}}, {Kind: api.KindNumber, Num: "1", Den: "1", Pair: omega().Pair},
		{Kind: api.KindCons, Num: "1", Den: "1", Pair: omega().Pair}, {Kind: api.KindCons, Text: "w", Pair: omega().Pair},
		pair(one), pair(pair(one, one)), pair(pair(one, one), zero, zero), pair(pair(one, one, one), zero), pair(pair(one), zero), pair(pair(), zero), pair(nil...),
		// too many digits
		ten(api.MaxDigits), nines(api.MaxDigits + 1), nines(500), w(one, one, ten(api.MaxDigits)), w(one, ten(api.MaxDigits), zero), w(ten(api.MaxDigits), one, zero), w(omega(), one, w(nines(101), one, one)),
		// too many nodes
		row(mostTerms+1, 1, zero), row(5000, 1, one), tower(mostTerms+1, one), tower(5000, one), w(tower(400, one), one, tower(mostTerms-399, one)),
		// parts that are not valid
		w(api.Object{}, one, zero), w(one, api.Object{}, zero), w(one, one, api.Object{}), w(num("2", "2"), one, zero), w(one, num("2", "2"), zero), w(one, one, num("02", "1")), pair(api.Object{}, zero),
	}
}

// endless returns a cons whose car is (1 . 1) and whose cdr is itself.
func endless() api.Object {
	cell := make([]api.Object, 2)
	cell[0] = pair(fin(1), fin(1))
	cell[1] = pair(cell...)
	return cell[1]
}

// bottomless returns a power of w that is its own exponent.
func bottomless() api.Object {
	inner, outer := make([]api.Object, 2), make([]api.Object, 2)
	outer[0], outer[1] = pair(inner...), fin(0)
	inner[0], inner[1] = pair(outer...), fin(1)
	return inner[0]
}

// double returns a power of w with about 4^n nodes, whose equal parts share their memory.
func double(n int) api.Object {
	o := fin(1)
	for range n {
		o = w(o, o, o)
	}
	return o
}

// strange are objects that have no end, or far more nodes than memory.
func strange() []api.Object {
	return []api.Object{
		endless(), bottomless(), w(endless(), fin(1), fin(0)), w(fin(1), endless(), fin(0)), w(bottomless(), fin(1), fin(0)), w(fin(1), bottomless(), fin(0)), w(fin(1), fin(1), bottomless()), tower(100, bottomless()),
		double(20), double(300), pair(slices.Repeat([]api.Object{double(40)}, 3)...), row(100000, 1, fin(0)), tower(1<<16-1, fin(1)),
	}
}

// notOrdinals are objects of all kinds that are not ordinals.
func notOrdinals() []api.Object {
	return slices.Concat(wrongParts(), notObjects(), strange())
}
