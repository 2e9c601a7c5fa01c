package ordinal

import (
	"slices"
	"testing"

	"lispprover/api"
	"lispprover/object"
)

// P3.7

// samples returns ordinals of all kinds; some have sums and products that are not valid.
func samples() []api.Object {
	return []api.Object{
		fin(0), fin(1), fin(2), fin(10), nines(60), nines(api.MaxDigits), omega(), ww(1, 1, 1), ww(1, 2, 0), ww(1, 3, 5), w(fin(1), nines(60), fin(2)), ww(2, 1, 0), w(fin(2), fin(2), ww(1, 1, 1)), ww(7, 3, 2), w(nines(100), fin(1), fin(0)),
		w(omega(), fin(1), fin(0)), w(omega(), fin(2), fin(3)), w(omega(), fin(1), w(fin(3), fin(2), omega())), w(ww(1, 1, 1), fin(1), fin(0)), w(ww(1, 2, 3), fin(4), w(omega(), fin(5), fin(6))), w(ww(2, 1, 0), fin(1), ww(2, 1, 0)), tower(3, fin(2)), tower(5, fin(1)),
		row(20, 1, fin(4)), tower(1, row(9, 2, fin(0))), tower(30, fin(3)),
	}
}

// large returns ordinals that are large enough for sums and products that are not valid.
func large() []api.Object {
	return []api.Object{row(300, 1, fin(4)), row(700, 100, fin(0)), tower(1, row(400, 1, fin(0))), tower(600, fin(3))}
}

// plus returns a + b, or an object that is not an ordinal.
func plus(a, b api.Object) api.Object {
	o, _ := Add(a, b)
	return o
}

// times returns a * b, or an object that is not an ordinal.
func times(a, b api.Object) api.Object {
	o, _ := Multiply(a, b)
	return o
}

// law counts the cases in which both sides are ordinals, which must be equal.
type law struct {
	name  string
	cases int
}

func (l *law) check(t *testing.T, left, right api.Object, args ...api.Object) {
	t.Helper()
	if !Valid(left) || !Valid(right) {
		return
	}
	l.cases++
	if object.Equal(left, right) {
		return
	}
	t.Errorf("%s: %s is not %s", l.name, show(left), show(right))
	for _, o := range args {
		t.Logf("with %s", show(o))
	}
}

// expectMost makes sure that the law was put to the test in at least half of the cases.
func (l *law) expectMost(t *testing.T, all int) {
	t.Helper()
	if 2*l.cases < all {
		t.Errorf("%s: only %d of %d cases", l.name, l.cases, all)
	}
}

// checkLaws goes through all triples of l, and returns how many there are.
func checkLaws(t *testing.T, l []api.Object, sums, products, both *law) int {
	for _, a := range l {
		for _, b := range l {
			sum, product := plus(a, b), times(a, b)
			for _, c := range l {
				sums.check(t, plus(sum, c), plus(a, plus(b, c)), a, b, c)
				products.check(t, times(product, c), times(a, times(b, c)), a, b, c)
				both.check(t, times(a, plus(b, c)), plus(product, times(a, c)), a, b, c)
			}
		}
	}
	return len(l) * len(l) * len(l)
}

func TestLawsOfThree(t *testing.T) {
	sums, products, both := law{name: "Add is associative"}, law{name: "Multiply is associative"}, law{name: "a * (b + c)"}
	all := checkLaws(t, samples(), &sums, &products, &both)
	all += checkLaws(t, append(large(), fin(0), fin(3), ww(1, 2, 1)), &sums, &products, &both)
	sums.expectMost(t, all)
	products.expectMost(t, all)
	both.expectMost(t, all)
}

func TestNeutralElements(t *testing.T) {
	for _, a := range slices.Concat(samples(), large(), further()) {
		o, ok := Add(a, Natural(0))
		expectValue(t, "a + 0", o, ok, a)
		o, ok = Add(Natural(0), a)
		expectValue(t, "0 + a", o, ok, a)
		o, ok = Multiply(a, Natural(1))
		expectValue(t, "a * 1", o, ok, a)
		o, ok = Multiply(Natural(1), a)
		expectValue(t, "1 * a", o, ok, a)
	}
}

func TestAddIsMonotonic(t *testing.T) {
	// Of two ordinals in this list, the first one is less.
	l := further()
	cases := 0
	for _, a := range append(samples(), large()...) {
		for i, c := range l[1:] {
			lower, higher := plus(a, l[i]), plus(a, c)
			if !Valid(lower) || !Valid(higher) {
				continue
			}
			cases++
			if !Less(lower, higher) {
				t.Errorf("%s is not less than %s", show(lower), show(higher))
			}
		}
	}
	if cases < 800 {
		t.Errorf("only %d cases", cases)
	}
}

// TestLessIsAnOrder: exactly one of a < b, a = b and b < a, and no way around. (TestLess has the order itself.)
func TestLessIsAnOrder(t *testing.T) {
	g := generator(3)
	l := append(samples(), large()...)
	for range 60 {
		l = append(l, g.model(3).object())
	}
	less := make([][]bool, len(l))
	for i, a := range l {
		for _, b := range l {
			less[i] = append(less[i], Less(a, b))
		}
	}
	for i, a := range l {
		for k, b := range l {
			if isEqual := isSame(a, b); less[i][k] && (isEqual || less[k][i]) || !less[i][k] && !isEqual && !less[k][i] {
				t.Errorf("%s and %s", show(a), show(b))
			}
			for m, c := range l {
				if less[i][k] && less[k][m] && !less[i][m] {
					t.Errorf("%s, %s and %s", show(a), show(b), show(c))
				}
			}
		}
	}
}

// TestDescendingSequences goes down from limits; each step must be a descent, and 0 must be reached.
func TestDescendingSequences(t *testing.T) {
	one := finite(1)
	w, w2 := one.power(1), one.power(2)
	for _, start := range []model{finite(9), w2.plus(finite(3)), finite(3).power(2), w.power(1), w.power(2).plus(w2), w.plus(one).power(1), w2.power(1), w.power(1).power(1).plus(w.power(1))} {
		m, steps := start, 0
		for len(m) > 0 {
			next := m.below(2)
			if !Valid(next.object()) || !Less(next.object(), m.object()) || Less(m.object(), next.object()) {
				t.Fatalf("from %s to %s", show(m.object()), show(next.object()))
			}
			m = next
			steps++
			if steps > 100000 {
				t.Fatalf("no end below %s", Format(start.object()))
			}
		}
	}
}

// TestNoDescentBelowNearlyOrdinals: with sums that are not in normal form, w^2 > w + w^2 > w + w + w^2 .. would go down without an end.
func TestNoDescentBelowNearlyOrdinals(t *testing.T) {
	above, o := ww(2, 1, 0), ww(2, 1, 0)
	for range 50 {
		o = w(fin(1), fin(1), o)
		if Valid(o) || Less(o, above) || Less(above, o) {
			t.Errorf("%s is not an ordinal", show(o))
		}
		above = o
	}
}
