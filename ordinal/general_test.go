package ordinal

import (
	"reflect"
	"slices"
	"testing"

	"lispprover/api"
)

// The general rules P0.1 and P0.4, for all functions.

// useAll calls every function with these objects.
func useAll(a, b, c api.Object) {
	for _, o := range []api.Object{a, b, c} {
		Valid(o)
		Finite(o)
		Exponent(o)
		Coefficient(o)
		Rest(o)
		Format(o)
	}
	Less(a, b)
	Add(a, b)
	Multiply(a, b)
	Power(a, b, c)
}

func TestArgumentsAreKept(t *testing.T) {
	all := func() []api.Object {
		return slices.Concat(samples(), large(), further(), wrongParts(), notObjects(), strange())
	}
	l, again := all(), all()
	for i, a := range l {
		for _, b := range l[max(0, i-3):min(i+4, len(l))] {
			useAll(a, b, l[0])
			useAll(b, l[1], a)
			useAll(l[6], a, b)
		}
	}
	for i := range l {
		if !reflect.DeepEqual(l[i], again[i]) {
			t.Errorf("an argument was changed: %d", i)
		}
	}
}

// TestCapacityIsKept: not even the unused capacity of a slice may be changed.
func TestCapacityIsKept(t *testing.T) {
	spare := func() []api.Object {
		return append(slices.Clone(w(fin(2), fin(3), ww(1, 4, 5)).Pair), str("spare"), str("more"))
	}
	l, again := spare(), spare()
	a := pair(l[:2]...)
	for _, b := range samples() {
		useAll(a, b, fin(0))
		useAll(b, a, a)
		useAll(fin(1), b, a)
	}
	if !reflect.DeepEqual(l, again) {
		t.Error("an argument was changed")
	}
}

// TestResultsAreKept: what a function has returned stays as it was when the result is used again.
func TestResultsAreKept(t *testing.T) {
	l := samples()
	for _, a := range l {
		for _, b := range l {
			sum, ok := Add(a, b)
			text := Format(sum)
			useAll(sum, a, b)
			useAll(b, sum, sum)
			if again, okAgain := Add(a, b); ok != okAgain || Format(sum) != text || !isSame(sum, again) {
				t.Errorf("the sum of %s and %s was changed", show(a), show(b))
			}
		}
	}
}
