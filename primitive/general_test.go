package primitive

import (
	"reflect"
	"testing"

	"lispprover/api"
)

// Arguments that are not valid, and the general rules P0.1, P0.3, P0.4 and P0.6

// circle returns a list without an end.
func circle() api.Object {
	o := pair(whole("1"), null())
	o.Pair[1] = o
	return o
}

// shared returns an object with far more nodes than memory.
func shared() api.Object {
	o := list(whole("1"))
	for range 100 {
		o = pair(o, o)
	}
	return o
}

// broken are objects that are not valid.
func broken() []api.Object {
	long := many("7", 3*api.MaxDigits)
	return []api.Object{
		{}, {Kind: 5}, {Kind: -1}, {Kind: api.KindNumber}, {Kind: api.KindSymbol}, {Kind: api.KindCons}, {Num: "1", Den: "1"}, {Text: "a"}, {Pair: []api.Object{truth(), truth()}},
		ratio("2", "4"), ratio("1", "0"), ratio("0", "0"), ratio("0", "2"), ratio("1", "-2"), ratio("-0", "1"), ratio("01", "1"), ratio("", "1"), ratio("1", ""), ratio("x", "y"),
		whole(nines() + "9"), ratio("1", nines()+"9"), ratio(long, long), ratio("-"+long, "2"),
		atom("lisp", ""), atom("lisp", many("n", api.MaxName+1)), atom("lisp", many("n", api.MaxText+1)), atom("", "x"), atom("A", "x"), atom(many("p", api.MaxText+1), "x"), atom("", "nil"),
		str(many("s", api.MaxText+1)), str(many("s", 100000)),
		{Kind: api.KindString, Text: "a", Num: "1"}, {Kind: api.KindSymbol, Sym: lisp("a"), Text: "a"}, {Kind: api.KindNumber, Num: "1", Den: "1", Pair: []api.Object{truth(), truth()}},
		pair(), pair(truth()), pair(truth(), truth(), truth()), pair(truth(), api.Object{}), pair(api.Object{}, truth()), list(api.Object{}), list(ratio("2", "4"), str("a")),
		chain(1500), chain(5000), left(5000), circle(), shared(), pair(circle(), circle()), list(shared()),
	}
}

// use calls every function with these arguments.
func use(args ...api.Object) {
	for _, r := range rows() {
		Apply(lisp(r.name), args...)
		Guard(lisp(r.name), args...)
	}
	for _, o := range args {
		Apply(o.Sym, args...)
		Guard(o.Sym, args...)
		Arity(o.Sym)
	}
}

func TestBrokenArguments(t *testing.T) {
	l := append(broken(), whole("1"), null(), str("ab"), whole("-5"))
	use()
	for i := range l {
		use(l[i])
		for j := range l {
			use(l[i], l[j])
			use(l[i], l[j], l[(i+j)%len(l)])
		}
	}
	again := append(broken(), whole("1"), null(), str("ab"), whole("-5"))
	for i := range l {
		if !reflect.DeepEqual(l[i], again[i]) {
			t.Errorf("an argument was changed: %d", i)
		}
	}
}

// TestBrokenValues: a value that is not valid is ErrLimit, whichever the primitive is.
func TestBrokenValues(t *testing.T) {
	for _, o := range broken() {
		expectLimit(t, "if", truth(), o, truth())
		expectLimit(t, "if", null(), truth(), o)
		expectLimit(t, "cons", o, truth())
		expectLimit(t, "cons", truth(), o)
		expectLimit(t, "car", pair(o, truth()))
		expectLimit(t, "cdr", pair(truth(), o))
		// an argument that is no part of the value does not matter
		expect(t, "if", str("a"), truth(), str("a"), o)
		expect(t, "if", str("a"), null(), o, str("a"))
		expect(t, "car", str("a"), pair(str("a"), o))
		expect(t, "cdr", str("a"), pair(o, str("a")))
	}
	large, power := whole(nines()+"9"), "1"+many("0", api.MaxDigits)
	for _, name := range []string{"unary--", "unary-/", "numerator", "floor"} {
		expectLimit(t, name, large)
	}
	expectLimit(t, "denominator", ratio("1", power))
	expectLimit(t, "symbol-name", atom("lisp", many("n", api.MaxText+1)))
	expectLimit(t, "symbol-package-name", atom(many("p", api.MaxText+1), "x"))
	expectLimit(t, "string-append", str(many("s", api.MaxText+1)), str(""))
}

// TestValuesOfBrokenArguments has arguments beyond a limit whose values are determined all the same.
func TestValuesOfBrokenArguments(t *testing.T) {
	long, power := str(many("s", 999)+"t"), "1"+many("0", api.MaxDigits)
	expect(t, "string-length", whole("1000"), long)
	expect(t, "string-byte", whole("116"), long, whole("999"))
	expect(t, "string-byte", null(), long, whole("1000"))
	expectGuard(t, "string-byte", true, long, whole("999"))
	expectGuard(t, "string-byte", false, long, whole("1000"))
	expect(t, "intern", null(), long, str("lisp"))
	expect(t, "intern", null(), str("a"), long)
	expect(t, "symbol-name", str(many("n", api.MaxName+1)), atom("A", many("n", api.MaxName+1)))
	expect(t, "symbol-package-name", str("A"), atom("A", ""))
	expect(t, "numerator", whole("1"), ratio("1", power))
	expect(t, "denominator", whole("7"), ratio(power, "7"))
	expect(t, "floor", whole("-1"), ratio("-1", power))
	expect(t, "floor", whole("1"+many("0", api.MaxDigits-1)), ratio(power+"5", "100"))
	expect(t, "binary-+", whole("-1"), whole(power), whole("-1"+many("0", api.MaxDigits-1)+"1"))
	expect(t, "binary-*", whole("1"), whole(power), ratio("1", power))
	expect(t, "<", truth(), whole(nines()), whole(power))
	expect(t, "<", null(), whole(power), whole(nines()))
	expect(t, "equal", truth(), circle(), circle())
	expect(t, "equal", null(), shared(), circle())
	expect(t, "equal", truth(), api.Object{}, api.Object{})
	expect(t, "equal", null(), api.Object{}, null())
	expect(t, "consp", truth(), shared())
	expect(t, "symbolp", truth(), atom("", "nil"))
	expect(t, "if", str("a"), shared(), str("a"), str("b"))
	expect(t, "if", str("a"), atom("", "nil"), str("a"), str("b"))
	for _, name := range []string{"consp", "symbolp", "stringp", "rationalp", "integerp", "car", "cdr"} {
		expect(t, name, null(), api.Object{Kind: 7, Num: "1", Den: "1", Sym: lisp("a"), Text: "a", Pair: []api.Object{truth(), truth()}})
	}
}

// TestFieldsOfOtherKinds: the kind of an object decides what it is, not the fields that it has beside.
func TestFieldsOfOtherKinds(t *testing.T) {
	full := func(kind int) api.Object {
		return api.Object{Kind: kind, Num: "5", Den: "2", Sym: lisp("a"), Text: "ab", Pair: []api.Object{str("c"), str("d")}}
	}
	for _, kind := range []int{api.KindNumber, api.KindString, api.KindCons, 0} {
		expect(t, "symbol-name", str(""), full(kind))
		expect(t, "symbol-package-name", str(""), full(kind))
		expectGuard(t, "symbol-name", false, full(kind))
	}
	for _, kind := range []int{api.KindNumber, api.KindSymbol, api.KindCons, 0} {
		expect(t, "string-length", whole("0"), full(kind))
		expect(t, "string-append", str("x"), full(kind), str("x"))
		expect(t, "string-append", str("x"), str("x"), full(kind))
		expect(t, "string-byte", null(), full(kind), whole("0"))
		expect(t, "intern", null(), full(kind), str("lisp"))
		expect(t, "intern", null(), str("a"), full(kind))
		expectGuard(t, "string-byte", false, full(kind), whole("0"))
		expectGuard(t, "intern", false, str("a"), full(kind))
	}
	for _, kind := range []int{api.KindString, api.KindSymbol, api.KindCons, 0} {
		expect(t, "numerator", whole("0"), full(kind))
		expect(t, "denominator", whole("1"), full(kind))
		expect(t, "floor", whole("0"), full(kind))
		expect(t, "byte-string", str(""), full(kind))
		expect(t, "binary-+", whole("1"), full(kind), whole("1"))
		expect(t, "string-byte", null(), str("abcdef"), full(kind))
		expectGuard(t, "unary-/", false, full(kind))
		expectGuard(t, "byte-string", false, full(kind))
	}
	for _, kind := range []int{api.KindNumber, api.KindString, api.KindSymbol, 0} {
		expect(t, "car", null(), full(kind))
		expect(t, "cdr", null(), full(kind))
		expectGuard(t, "car", false, full(kind))
	}
}

// TestCapacityIsKept: not even the unused capacity of a slice may be changed.
func TestCapacityIsKept(t *testing.T) {
	all := func() []api.Object {
		parts := []api.Object{whole("1"), str("x"), str("spare"), str("more")}
		return []api.Object{pair(parts[:2]...), pair(parts[1:3]...), truth(), str("spare"), null()}
	}
	args, again := all(), all()
	for n := range 4 {
		use(args[:n]...)
	}
	if !reflect.DeepEqual(args, again) || args[0].Pair[:4][3].Text != "more" || args[0].Pair[:4][2].Text != "spare" {
		t.Error("an argument was changed")
	}
}

// TestConsIsNew: a cons keeps its car and its cdr when the slice of the arguments is used again.
func TestConsIsNew(t *testing.T) {
	args := []api.Object{whole("1"), whole("2")}
	o, _ := Apply(lisp("cons"), args...)
	args[0], args[1] = str("a"), str("b")
	if !reflect.DeepEqual(o, pair(whole("1"), whole("2"))) {
		t.Errorf("the cons is now %s", show(o))
	}
}
