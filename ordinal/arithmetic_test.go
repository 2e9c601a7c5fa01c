package ordinal

import (
	"slices"
	"testing"

	"lispprover/api"
)

// P3.3

func TestPower(t *testing.T) {
	for _, c := range [][3]api.Object{
		{fin(1), fin(1), fin(0)}, {fin(1), fin(5), fin(0)}, {fin(1), fin(1), fin(9)}, {fin(2), fin(3), omega()}, {fin(2), fin(3), ww(1, 10, 4)}, {fin(10), fin(1), ww(9, 9, 9)},
		{omega(), fin(1), fin(0)}, {omega(), fin(2), ww(1000, 3, 4)}, {ww(1, 1, 1), fin(1), tower(1, omega())}, {tower(5, fin(2)), fin(7), tower(5, fin(2))},
		{nines(api.MaxDigits), nines(api.MaxDigits), nines(api.MaxDigits)}, {fin(mostTerms), fin(1), row(mostTerms-1, 1, fin(0))}, {tower(mostTerms-1, fin(1)), fin(1), fin(0)},
	} {
		o, ok := Power(c[0], c[1], c[2])
		expectValue(t, "Power", o, ok, w(c[0], c[1], c[2]))
	}
}

func expectNoPower(t *testing.T, e, c, rest api.Object) {
	t.Helper()
	o, ok := Power(e, c, rest)
	expectNone(t, "Power of "+show(e)+", "+show(c)+", "+show(rest), o, ok)
}

func TestPowerOfWrongOrdinals(t *testing.T) {
	one, zero := fin(1), fin(0)
	// an exponent 0
	expectNoPower(t, zero, one, zero)
	expectNoPower(t, zero, fin(3), fin(4))
	// a coefficient that is 0 or infinite
	expectNoPower(t, one, zero, zero)
	expectNoPower(t, omega(), zero, omega())
	expectNoPower(t, one, omega(), zero)
	expectNoPower(t, one, tower(3, one), zero)
	// a rest whose exponent is not less than the exponent
	expectNoPower(t, one, one, omega())
	expectNoPower(t, one, fin(2), omega())
	expectNoPower(t, one, one, ww(2, 1, 0))
	expectNoPower(t, fin(9), one, ww(10, 1, 0))
	expectNoPower(t, omega(), one, tower(2, one))
	expectNoPower(t, omega(), one, w(ww(1, 1, 1), one, zero))
	expectNoPower(t, omega(), one, tower(3, one))
	expectNoPower(t, zero, one, omega())
}

func TestPowerOfOtherObjects(t *testing.T) {
	for _, o := range notOrdinals() {
		expectNoPower(t, o, fin(1), fin(0))
		expectNoPower(t, fin(1), o, fin(0))
		expectNoPower(t, fin(1), fin(1), o)
		expectNoPower(t, o, o, o)
	}
}

func TestPowerBeyondTheLimits(t *testing.T) {
	expectNoPower(t, fin(mostTerms+1), fin(1), row(mostTerms, 1, fin(0)))
	expectNoPower(t, tower(mostTerms, fin(1)), fin(1), fin(0))
	expectNoPower(t, tower(500, fin(1)), fin(1), tower(mostTerms-500, fin(1)))
}

// P3.4

func TestAdd(t *testing.T) {
	for _, c := range [][3]api.Object{
		// the examples of the chapter
		{fin(1), omega(), omega()}, {omega(), fin(1), ww(1, 1, 1)},
		// 0
		{fin(0), fin(0), fin(0)}, {fin(0), fin(7), fin(7)}, {fin(7), fin(0), fin(7)}, {ww(1, 2, 3), fin(0), ww(1, 2, 3)}, {fin(0), ww(1, 2, 3), ww(1, 2, 3)}, {omega(), fin(0), omega()},
		// finite ordinals
		{fin(2), fin(3), fin(5)}, {fin(999), fin(1), fin(1000)}, {nines(99), fin(1), ten(99)}, {nines(api.MaxDigits), fin(0), nines(api.MaxDigits)},
		// a lower exponent before a higher one
		{fin(5), ww(1, 2, 3), ww(1, 2, 3)}, {nines(api.MaxDigits), ww(1, 2, 3), ww(1, 2, 3)}, {ww(1, 9, 9), ww(2, 1, 0), ww(2, 1, 0)}, {row(9, 1, fin(4)), ww(10, 1, 0), ww(10, 1, 0)}, {ww(99, 9, 9), tower(2, fin(1)), tower(2, fin(1))},
		// equal exponents
		{omega(), omega(), ww(1, 2, 0)}, {ww(1, 2, 3), ww(1, 4, 5), ww(1, 6, 5)}, {ww(1, 2, 3), ww(1, 4, 0), ww(1, 6, 0)}, {w(fin(3), fin(1), w(fin(2), fin(5), fin(1))), ww(3, 1, 2), ww(3, 2, 2)}, {w(omega(), fin(2), omega()), w(omega(), fin(3), fin(1)), w(omega(), fin(5), fin(1))},
		// a higher exponent before a lower one
		{ww(1, 2, 3), fin(4), ww(1, 2, 7)}, {ww(2, 1, 0), omega(), w(fin(2), fin(1), omega())}, {row(5, 1, fin(6)), ww(3, 7, 8), w(fin(5), fin(1), w(fin(4), fin(1), ww(3, 8, 8)))}, {w(fin(5), fin(1), ww(1, 1, 1)), ww(3, 2, 0), w(fin(5), fin(1), ww(3, 2, 0))}, {w(tower(2, fin(1)), fin(3), ww(9, 9, 9)), w(omega(), fin(4), fin(5)), w(tower(2, fin(1)), fin(3), w(omega(), fin(4), fin(5)))},
	} {
		o, ok := Add(c[0], c[1])
		expectValue(t, "Add of "+show(c[0])+" and "+show(c[1]), o, ok, c[2])
	}
}

// TestAddAtTheLimits has sums that are as large as an object may be, and sums that are larger.
func TestAddAtTheLimits(t *testing.T) {
	most, large := nines(api.MaxDigits), num(nines(api.MaxDigits-1).Num+"8", "1")
	half := mostTerms / 2
	for _, c := range []struct{ a, b, sum api.Object }{
		{large, fin(1), most},
		{w(fin(1), large, fin(5)), ww(1, 1, 6), w(fin(1), most, fin(6))},
		{w(fin(1), fin(1), large), fin(1), w(fin(1), fin(1), most)},
		{row(mostTerms, half+1, fin(0)), row(half, 1, fin(0)), row(mostTerms, 1, fin(0))},
		{row(mostTerms, half+1, fin(8)), row(half, 1, fin(0)), row(mostTerms, 1, fin(0))},
		{row(mostTerms, 1, most), ww(mostTerms+1, 1, 0), ww(mostTerms+1, 1, 0)},
		{row(mostTerms, 1, most), row(mostTerms+1, 3, most), row(mostTerms+1, 3, most)},
	} {
		o, ok := Add(c.a, c.b)
		expectValue(t, "Add", o, ok, c.sum)
	}
	for _, c := range [][2]api.Object{
		{most, fin(1)}, {fin(1), most}, {most, most}, {w(fin(1), most, fin(0)), omega()}, {omega(), w(fin(1), most, fin(0))}, {w(fin(1), fin(1), most), fin(1)}, {row(5, 2, w(fin(1), most, fin(0))), omega()},
		{row(mostTerms+1, half+1, fin(0)), row(half, 1, fin(0))}, {row(mostTerms+half, half, fin(0)), row(half-1, 1, fin(0))}, {w(tower(2, fin(1)), fin(1), fin(0)), row(mostTerms, 1, fin(0))},
	} {
		o, ok := Add(c[0], c[1])
		expectNone(t, "Add of "+show(c[0])+" and "+show(c[1]), o, ok)
	}
}

// some are ordinals to go with an argument that is none.
func some() []api.Object {
	return []api.Object{fin(0), fin(1), fin(2), omega(), tower(3, fin(2))}
}

func TestAddOfOtherObjects(t *testing.T) {
	for _, o := range notOrdinals() {
		for _, a := range append(some(), o) {
			sum, ok := Add(a, o)
			expectNone(t, "Add of "+show(a)+" and "+show(o), sum, ok)
			sum, ok = Add(o, a)
			expectNone(t, "Add of "+show(o)+" and "+show(a), sum, ok)
		}
	}
}

// P3.5

func TestMultiply(t *testing.T) {
	for _, c := range [][3]api.Object{
		// the examples of the chapter
		{fin(2), omega(), omega()}, {omega(), fin(2), ww(1, 2, 0)},
		// 0
		{fin(0), fin(0), fin(0)}, {fin(0), fin(7), fin(0)}, {fin(7), fin(0), fin(0)}, {fin(0), ww(1, 2, 3), fin(0)}, {ww(1, 2, 3), fin(0), fin(0)}, {row(mostTerms, 1, fin(0)), fin(0), fin(0)},
		// finite ordinals
		{fin(2), fin(3), fin(6)}, {fin(1), fin(1), fin(1)}, {ten(50), ten(49), ten(99)},
		// only the second is finite
		{ww(1, 2, 3), fin(4), ww(1, 8, 3)}, {ww(1, 2, 3), fin(1), ww(1, 2, 3)}, {w(fin(3), fin(2), ww(1, 5, 7)), fin(6), w(fin(3), fin(12), ww(1, 5, 7))}, {w(omega(), fin(3), omega()), fin(5), w(omega(), fin(15), omega())},
		// only the first is finite
		{fin(3), ww(1, 2, 0), ww(1, 2, 0)}, {fin(3), ww(1, 2, 4), ww(1, 2, 12)}, {fin(3), w(omega(), fin(2), ww(1, 5, 6)), w(omega(), fin(2), ww(1, 5, 18))},
		// both are infinite
		{omega(), omega(), ww(2, 1, 0)}, {ww(1, 2, 3), omega(), ww(2, 1, 0)}, {ww(1, 2, 3), ww(1, 4, 0), ww(2, 4, 0)}, {ww(1, 2, 3), ww(1, 4, 5), w(fin(2), fin(4), ww(1, 10, 3))}, {ww(2, 5, 1), ww(3, 4, 0), ww(5, 4, 0)},
		{ww(1, 1, 1), ww(1, 1, 1), w(fin(2), fin(1), ww(1, 1, 1))}, {omega(), w(omega(), fin(1), fin(0)), w(omega(), fin(1), fin(0))}, {w(omega(), fin(1), fin(0)), omega(), w(ww(1, 1, 1), fin(1), fin(0))}, {w(omega(), fin(3), fin(5)), w(omega(), fin(2), ww(1, 4, 6)), w(ww(1, 2, 0), fin(2), w(ww(1, 1, 1), fin(4), w(omega(), fin(18), fin(5))))},
	} {
		o, ok := Multiply(c[0], c[1])
		expectValue(t, "Multiply of "+show(c[0])+" and "+show(c[1]), o, ok, c[2])
	}
}

// TestMultiplyDigits has sums and products with as many digits as an object may have, and with more.
func TestMultiplyDigits(t *testing.T) {
	most, zero, one := nines(api.MaxDigits), fin(0), fin(1)
	for _, c := range [][3]api.Object{
		{most, one, most}, {one, most, most}, {ten(99), fin(9), num("9"+ten(99).Num[1:], "1")},
		{w(one, ten(50), fin(7)), ten(49), w(one, ten(99), fin(7))}, {most, omega(), omega()}, {w(one, most, most), omega(), ww(2, 1, 0)}, {fin(3), w(one, most, fin(3)), w(one, most, fin(9))},
		{w(num(nines(99).Num+"8", "1"), one, zero), omega(), w(most, one, zero)}, {w(most, one, zero), tower(2, one), tower(2, one)},
	} {
		o, ok := Multiply(c[0], c[1])
		expectValue(t, "Multiply of "+show(c[0])+" and "+show(c[1]), o, ok, c[2])
	}
	for _, c := range [][2]api.Object{
		{ten(50), ten(50)}, {most, fin(2)}, {fin(2), most}, {w(one, ten(50), zero), ten(50)}, {ten(50), w(one, one, ten(50))}, {w(one, ten(50), zero), w(one, one, ten(50))}, {fin(2), w(omega(), one, w(one, one, most))},
		{w(most, one, zero), omega()}, {omega(), w(most, one, zero)}, {w(most, one, zero), w(omega(), one, omega())}, {w(w(omega(), one, most), one, zero), omega()},
	} {
		o, ok := Multiply(c[0], c[1])
		expectNone(t, "Multiply of "+show(c[0])+" and "+show(c[1]), o, ok)
	}
}

// TestMultiplyNodes has products with as many nodes as an object may have, and with more.
func TestMultiplyNodes(t *testing.T) {
	zero, one, b := fin(0), fin(1), row(2, 1, fin(0))
	// Each of the two terms has the nodes of one exponent, and three more.
	fits := ((api.MaxNodes-1)/2 - 4) / 4
	o, ok := Multiply(tower(1, row(fits+2, 3, zero)), b)
	expectValue(t, "a product of two terms", o, ok, w(row(fits+2, 3, fin(2)), one, tower(1, row(fits+2, 3, one))))
	o, ok = Multiply(omega(), row(mostTerms, 1, zero))
	expectValue(t, "a product of many terms", o, ok, row(mostTerms+1, 2, zero))
	o, ok = Multiply(row(mostTerms, 1, zero), omega())
	expectValue(t, "a product of many terms and w", o, ok, ww(mostTerms+1, 1, 0))
	for _, c := range [][2]api.Object{
		{tower(1, row(fits+3, 3, zero)), b},                                                      // one exponent too many
		{ww(1, 1, 1), row(mostTerms, 1, one)}, {row(mostTerms, 1, zero), row(mostTerms, 1, one)}, // a rest with too many terms
		{tower(1, row(1000, 501, zero)), tower(1, row(500, 201, zero))}, {tower(1, row(500, 2, zero)), w(row(499, 200, zero), one, fin(3))}, // an exponent with too many terms
		{tower(1, row(mostTerms-1, 1, zero)), row(mostTerms, 1, zero)}, // far too many terms
	} {
		o, ok := Multiply(c[0], c[1])
		expectNone(t, "Multiply of "+show(c[0])+" and "+show(c[1]), o, ok)
	}
}

func TestMultiplyOfOtherObjects(t *testing.T) {
	for _, o := range notOrdinals() {
		for _, a := range append(some(), o) {
			product, ok := Multiply(a, o)
			expectNone(t, "Multiply of "+show(a)+" and "+show(o), product, ok)
			product, ok = Multiply(o, a)
			expectNone(t, "Multiply of "+show(o)+" and "+show(a), product, ok)
		}
	}
}

// P3.1 to P3.5, with many ordinals

func TestWithModels(t *testing.T) {
	g := generator(1)
	for range 4000 {
		m, n := g.model(3), g.model(3)
		a, b := m.object(), n.object()
		if !Valid(a) || !Valid(b) {
			t.Fatalf("not ordinals: %s, %s", show(a), show(b))
		}
		if Less(a, b) != (m.compare(n) < 0) || Less(b, a) != (m.compare(n) > 0) {
			t.Errorf("Less(%s, %s): %v", Format(a), Format(b), Less(a, b))
		}
		o, ok := Add(a, b)
		expectValue(t, Format(a)+" plus "+Format(b), o, ok, m.plus(n).object())
		o, ok = Multiply(a, b)
		expectValue(t, Format(a)+" times "+Format(b), o, ok, m.times(n).object())
	}
}

// TestPowersOfModels puts ordinals together in all ways; Power must accept those that are in normal form.
func TestPowersOfModels(t *testing.T) {
	g := generator(2)
	var models []model
	for range 20 {
		models = append(models, g.model(2))
	}
	for _, e := range models {
		for _, c := range models {
			for _, rest := range models {
				o, ok := Power(e.object(), c.object(), rest.object())
				isCoefficient := len(c) > 0 && len(c[0].exponent) == 0
				isRest := len(rest) == 0 || rest[0].exponent.compare(e) < 0
				if len(e) > 0 && isCoefficient && isRest {
					expectValue(t, "Power", o, ok, slices.Concat(e.power(c[0].coefficient), rest).object())
				} else {
					expectNone(t, "Power", o, ok)
				}
			}
		}
	}
}
