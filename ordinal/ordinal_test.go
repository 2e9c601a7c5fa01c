package ordinal

import (
	"math"
	"slices"
	"strconv"
	"testing"

	"lispprover/api"
	"lispprover/object"
)

// P3.1

func TestValid(t *testing.T) {
	for _, o := range slices.Concat(ladder(), further()) {
		if !Valid(o) {
			t.Errorf("Valid(%s) is false", show(o))
		}
	}
	for _, o := range notOrdinals() {
		if Valid(o) {
			t.Errorf("Valid(%s) is true", show(o))
		}
	}
}

// TestWrongPartsAreObjects makes sure that they are refused for what they are, not for their limits or fields.
func TestWrongPartsAreObjects(t *testing.T) {
	for _, o := range wrongParts() {
		if !object.Valid(o) {
			t.Errorf("%s is not a valid object", show(o))
		}
	}
	for _, o := range slices.Concat(notObjects(), strange()) {
		if object.Valid(o) {
			t.Errorf("%s is a valid object", show(o))
		}
	}
}

// TestValidAtTheLimits has the largest ordinals and those that are one digit or one term larger.
func TestValidAtTheLimits(t *testing.T) {
	for _, c := range []struct {
		o    api.Object
		want bool
	}{
		{nines(api.MaxDigits), true}, {ten(api.MaxDigits), false},
		{w(fin(1), nines(api.MaxDigits), fin(0)), true}, {w(fin(1), ten(api.MaxDigits), fin(0)), false},
		{w(nines(api.MaxDigits), fin(1), fin(0)), true}, {w(ten(api.MaxDigits), fin(1), fin(0)), false},
		{row(mostTerms, 1, fin(0)), true}, {row(mostTerms+1, 1, fin(0)), false},
		{tower(mostTerms, fin(1)), true}, {tower(mostTerms+1, fin(1)), false},
		{w(tower(400, fin(1)), fin(1), tower(mostTerms-401, fin(1))), true}, {w(tower(400, fin(1)), fin(1), tower(mostTerms-400, fin(1))), false},
	} {
		if Valid(c.o) != c.want {
			t.Errorf("Valid(%s): %v", show(c.o), !c.want)
		}
	}
}

func TestValidWithEmptyPair(t *testing.T) {
	o := fin(3)
	o.Pair = []api.Object{}
	if !Valid(o) || !Finite(o) || !Valid(w(o, o, o)) {
		t.Error("an empty Pair is no Pair")
	}
}

func TestNatural(t *testing.T) {
	for n, want := range map[int]string{
		0: "0", 1: "1", 2: "2", 10: "10", 999999999: "999999999", math.MaxInt: "9223372036854775807",
		-1: "0", -2: "0", -1000: "0", math.MinInt: "0",
	} {
		expect(t, "Natural("+strconv.Itoa(n)+")", Natural(n), num(want, "1"))
	}
}

func TestFinite(t *testing.T) {
	for _, o := range slices.Concat(ladder(), further()) {
		if Finite(o) != (len(o.Pair) == 0) {
			t.Errorf("Finite(%s): %v", show(o), Finite(o))
		}
	}
	for _, o := range notOrdinals() {
		if Finite(o) {
			t.Errorf("Finite(%s) is true", show(o))
		}
	}
}

func TestPartsOfFiniteOrdinals(t *testing.T) {
	for _, o := range []api.Object{fin(0), fin(1), fin(2), fin(1000), nines(api.MaxDigits)} {
		expect(t, "Exponent", Exponent(o), fin(0))
		expect(t, "Coefficient", Coefficient(o), o)
		expect(t, "Rest", Rest(o), fin(0))
	}
}

func TestPartsOfInfiniteOrdinals(t *testing.T) {
	for _, c := range [][3]api.Object{
		{fin(1), fin(1), fin(0)}, {fin(1), fin(3), fin(4)}, {fin(2), nines(100), omega()}, {nines(100), fin(2), ww(3, 1, 7)},
		{omega(), fin(2), ww(1, 3, 5)}, {ww(1, 1, 1), fin(1), w(omega(), fin(2), fin(1))}, {tower(9, fin(4)), fin(6), tower(9, fin(3))},
		{fin(mostTerms), fin(1), row(mostTerms-1, 1, fin(0))}, {tower(mostTerms-1, fin(1)), fin(1), fin(0)},
	} {
		o := w(c[0], c[1], c[2])
		expect(t, "Exponent", Exponent(o), c[0])
		expect(t, "Coefficient", Coefficient(o), c[1])
		expect(t, "Rest", Rest(o), c[2])
	}
}

func TestPartsOfOtherObjects(t *testing.T) {
	for _, o := range notOrdinals() {
		expect(t, "Exponent", Exponent(o), api.Object{})
		expect(t, "Coefficient", Coefficient(o), api.Object{})
		expect(t, "Rest", Rest(o), api.Object{})
	}
}

// P3.2

func TestLess(t *testing.T) {
	for _, l := range [][]api.Object{ladder(), further()} {
		for i, a := range l {
			for k, b := range l {
				if Less(a, b) != (i < k) {
					t.Errorf("Less(%s, %s): %v", show(a), show(b), Less(a, b))
				}
			}
		}
	}
}

// TestLessOfCopies compares ordinals that share no memory.
func TestLessOfCopies(t *testing.T) {
	l, again := further(), further()
	for i := range l {
		for k := range again {
			if Less(l[i], again[k]) != (i < k) {
				t.Errorf("Less(%s, %s): %v", show(l[i]), show(again[k]), Less(l[i], again[k]))
			}
		}
	}
}

// TestLessAtTheEnd compares large ordinals whose only difference comes last.
func TestLessAtTheEnd(t *testing.T) {
	for _, c := range [][2]api.Object{
		{row(mostTerms, 1, fin(0)), row(mostTerms, 1, fin(1))}, {row(mostTerms, 2, ww(1, 2, 0)), row(mostTerms, 2, ww(1, 3, 0))}, {row(mostTerms-1, 1, fin(9)), row(mostTerms, 2, fin(0))},
		{tower(mostTerms, fin(1)), tower(mostTerms, fin(2))}, {tower(mostTerms-1, fin(9)), tower(mostTerms, fin(9))}, {tower(mostTerms-1, fin(1)), tower(mostTerms-1, omega())},
	} {
		if !Less(c[0], c[1]) || Less(c[1], c[0]) {
			t.Errorf("Less(%s, %s)", show(c[0]), show(c[1]))
		}
	}
}

func TestLessOfOtherObjects(t *testing.T) {
	for _, o := range notOrdinals() {
		for _, a := range []api.Object{fin(0), fin(1), omega(), tower(3, fin(2)), o} {
			if Less(a, o) || Less(o, a) {
				t.Errorf("Less with %s is true", show(o))
			}
		}
	}
}
