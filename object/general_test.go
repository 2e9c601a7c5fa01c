package object

import (
	"reflect"
	"slices"
	"strconv"
	"strings"
	"testing"

	"lispprover/api"
)

// Objects that are not valid: the general rules P0.1 and P0.4, and P2.1 to P2.3 for them.

// strange are objects that are malformed, endless, or far larger than their memory.
func strange() []api.Object {
	digits := strings.Repeat("7", 300)
	inNumber := endless(1)
	inNumber.Kind, inNumber.Num, inNumber.Den = api.KindNumber, "1", "1"
	return slices.Concat(distinct(), []api.Object{
		endless(1), endless(2), endless(3), endless(4), endless(1000), endless(1499), bottomless(), inNumber,
		endlessAfter(1, endless(1)), endlessAfter(2, endless(3)), endlessAfter(5000, endless(7)), pair(bottomless(), endless(5)), pair(Int(1), endless(1)),
		double(20, T()), double(63, T()), double(64, T()), double(500, Nil()), double(64, endless(2)), double(64, pair(T())),
		chain(5000), carChain(5000), pair(slices.Repeat([]api.Object{double(64, T())}, 3)...),
		num(digits, digits), num(digits, "-"+digits), num("1", "0"), num("", "0"), {Kind: 1 << 40}, {Kind: -1 << 40},
		str(strings.Repeat("x", 100000)), sym(strings.Repeat("x", 100000), strings.Repeat("y", 100000)),
	})
}

// useBoth calls every function of two objects.
func useBoth(a, b api.Object) {
	Equal(a, b)
	Compare(a, b)
	Sum(a, b)
	Product(a, b)
	Less(a, b)
	Cons(a, b)
	List(a, b)
}

func useOne(o api.Object) {
	Valid(o)
	Items(o)
	IsNil(o)
	IsInteger(o)
	Nodes(o)
	Opposite(o)
	Reciprocal(o)
	List(o)
	Symbol(o.Sym)
	Text(o.Text)
	Rational(o.Num, o.Den)
}

func TestStrangeArguments(t *testing.T) {
	l, again := strange(), strange()
	for i := range l {
		useOne(l[i])
		for j := range again {
			useBoth(l[i], again[j])
		}
	}
	for i := range l {
		if !reflect.DeepEqual(l[i], again[i]) {
			t.Errorf("an argument was changed: %d", i)
		}
	}
}

func TestListOfAnEmptySlice(t *testing.T) {
	expect(t, "List of nil", List(nil...), sym("lisp", "nil"))
	expect(t, "List of an empty slice", List([]api.Object{}...), sym("lisp", "nil"))
}

// TestCapacityIsKept: not even the unused capacity of a slice may be changed.
func TestCapacityIsKept(t *testing.T) {
	l := []api.Object{Int(1), Int(2), Text("end"), Text("more")}
	a, b := pair(l[:2]...), pair(l[1:3]...)
	useBoth(a, b)
	useOne(a)
	useOne(b)
	List(l[:2]...)
	List(l[:0]...)
	want := []api.Object{num("1", "1"), num("2", "1"), str("end"), str("more")}
	for i := range l {
		expect(t, "element "+strconv.Itoa(i), l[i], want[i])
	}
}

func TestEndlessObjects(t *testing.T) {
	for _, o := range []api.Object{endless(1), endless(2), endless(7), endless(1000), endless(1500), endless(3001), bottomless(), endlessAfter(10, endless(3)), endlessAfter(2000, endless(1)), pair(T(), endless(1))} {
		expectValid(t, o, false)
		expectNodes(t, o, api.MaxNodes+1)
		if !Equal(o, o) || !Equal(pair(T(), o), pair(T(), o)) || Equal(o, T()) || Equal(o, pair(T(), T())) {
			t.Errorf("Equal with %s", show(o))
		}
	}
	// A list that contains an endless object is a proper list all the same.
	if items, ok := Items(pair(bottomless(), Nil())); !ok || len(items) != 1 {
		t.Error("Items of a list with a bottomless element")
	}
	for _, o := range []api.Object{endless(1), endless(2), endless(3), endless(5), endless(1024), endless(1025), endless(5000), endlessAfter(1, endless(1)), endlessAfter(1000, endless(24)), endlessAfter(3, endless(4000))} {
		if items, ok := Items(o); ok || len(items) != 0 {
			t.Errorf("Items of an endless list: %d", len(items))
		}
	}
}

func TestEqualOfEndlessObjects(t *testing.T) {
	if !Equal(endless(3), endless(3)) || !Equal(endless(2), endless(3)) || !Equal(bottomless(), bottomless()) {
		t.Error("endless objects without a difference")
	}
	if Equal(endless(3), endlessAfter(1, endless(3))) || Equal(endlessAfter(4000, endless(3)), endlessAfter(4001, endless(3))) || Equal(endless(1), chain(5000)) || Equal(bottomless(), carChain(5000)) {
		t.Error("endless objects with a difference")
	}
}

// TestEqualOfSharedParts: objects with far more nodes than anybody could count.
func TestEqualOfSharedParts(t *testing.T) {
	for _, n := range []int{10, 11, 12, 13, 64, 500} {
		a, b := double(n, T()), double(n, T())
		if !Equal(a, b) || Compare(a, b) != 0 {
			t.Errorf("two trees of depth %d", n)
		}
		if Equal(a, double(n, Nil())) || Equal(a, double(n+1, T())) {
			t.Errorf("two different trees of depth %d", n)
		}
		// The difference comes last, after all that is equal.
		if Equal(pair(a, T()), pair(b, Nil())) || Compare(pair(a, Nil()), pair(b, T())) != -1 || Compare(pair(a, T()), pair(b, Nil())) != 1 {
			t.Errorf("two trees of depth %d before a difference", n)
		}
	}
}

// TestLateMeetings: Pairs that have met others before, late in a comparison.
func TestLateMeetings(t *testing.T) {
	late := func(a, b []api.Object) api.Object {
		return pair(chain(api.MaxNodes), pair(pair(a...), pair(b...)))
	}
	expectDifference := func(what string, a, b api.Object) {
		t.Helper()
		if Equal(a, b) || Equal(b, a) || Compare(a, b) == 0 || Compare(a, b) != -Compare(b, a) {
			t.Error(what)
		}
	}
	l, m := []api.Object{T(), T(), T()}, []api.Object{T(), T(), Nil()}
	expectDifference("three elements after two of them", late(l[:2], l), late(m[:2], m))
	shared, same, other := []api.Object{T(), T()}, []api.Object{T(), T()}, []api.Object{T(), Nil()}
	expectDifference("two elements after the same two and others", late(shared, shared), late(same, other))
	if !Equal(late(shared, shared), late(same, slices.Clone(same))) {
		t.Error("two elements after the same two")
	}
}

// TestDeepObjects: as many levels of nesting as the document allows.
func TestDeepObjects(t *testing.T) {
	n := 1<<16 - 1
	a, b := carChain(n), carChain(n)
	useOne(a)
	useBoth(a, b)
	if !Equal(a, b) || Equal(a, carChain(n-1)) {
		t.Error("Equal of deep objects")
	}
}

// TestItemsBeyondTheLimit: a list with too many nodes is a proper list all the same.
func TestItemsBeyondTheLimit(t *testing.T) {
	for _, n := range []int{1500, 4096, 10000} {
		items, ok := Items(chain(n))
		if !ok || len(items) != n {
			t.Fatalf("Items of %d elements: %d, %v", n, len(items), ok)
		}
		expect(t, "the last element", items[n-1], num("1", "1"))
	}
}
