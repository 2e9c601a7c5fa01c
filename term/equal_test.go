package term

import (
	"slices"
	"testing"

	"lispprover/api"
	"lispprover/object"
)

// P8.1: Equal

func expectEqual(t *testing.T, a, b api.Term, want bool) {
	t.Helper()
	if Equal(a, b) != want || Equal(b, a) != want {
		t.Errorf("Equal(%s, %s): %v, %v", short(a), short(b), Equal(a, b), Equal(b, a))
	}
}

// different are valid terms that are all different.
func different() []api.Term {
	return tms("x", "y", "a::x", "a::y", "'x", "'y", "'a::x", "'nil", "'t", "'1", "'-1", "'1/2", "'2", "\"x\"", "\"1\"", "'(1)", "'(1 . 1)", "'(1 1)", "'(f x)",
		"(x)", "(a::x)", "(f)", "(g)", "(f x)", "(f y)", "(f 'x)", "(f (x))", "(f x x)", "(f x y)", "(f y x)", "(g x y)", "(f x '1)", "(f x '2)", "(f (f x))", "(f (g x))", "(g (f x))", "(f (f x) x)", "(f x (f x))", "(f x x x)",
		"(f x x x x x x x x)", "(f x x x x x x x y)", "(f y x x x x x x x)", "(nil)", "(nil x)")
}

func TestEqual(t *testing.T) {
	l, again := different(), different()
	for i := range l {
		for j := range again {
			expectEqual(t, l[i], again[j], i == j)
			expectEqual(t, call("f", tm("x"), l[i]), call("f", tm("x"), again[j]), i == j)
			expectEqual(t, call("f", l[i], l[i]), call("f", again[i], again[j]), i == j)
		}
	}
}

// TestEqualFields: all fields count, whatever the kind is.
func TestEqualFields(t *testing.T) {
	full := func() api.Term {
		return api.Term{Kind: 9, Name: sym("a::b"), Value: obj("(1 . \"a\")"), Args: tms("x", "(f y)")}
	}
	for _, kind := range []int{-1, 0, api.Variable, api.Constant, api.Call, 4} {
		a, b := full(), full()
		a.Kind, b.Kind = kind, kind
		expectEqual(t, a, b, true)
		expectEqual(t, a, full(), false)
		for _, change := range []func(x *api.Term){
			func(x *api.Term) { x.Name = sym("a::c") },
			func(x *api.Term) { x.Name = sym("b::b") },
			func(x *api.Term) { x.Name = api.Symbol{} },
			func(x *api.Term) { x.Value = obj("(1 . \"b\")") },
			func(x *api.Term) { x.Value = api.Object{} },
			func(x *api.Term) { x.Value.Text = "a" },
			func(x *api.Term) { x.Value.Kind = 0 },
			func(x *api.Term) { x.Args = nil },
			func(x *api.Term) { x.Args = x.Args[:1] },
			func(x *api.Term) { x.Args = append(x.Args, tm("x")) },
			func(x *api.Term) { x.Args = tms("y", "(f y)") },
			func(x *api.Term) { x.Args = tms("x", "(f z)") },
			func(x *api.Term) { x.Args = []api.Term{tm("x"), {}} },
		} {
			b := full()
			b.Kind = kind
			change(&b)
			expectEqual(t, a, b, false)
			expectEqual(t, call("f", a), call("f", b), false)
		}
	}
}

func TestEqualForeignFields(t *testing.T) {
	for _, x := range tms("x", "'1", "(f x)") {
		for _, y := range withForeignFields(x) {
			expectEqual(t, x, y, false)
			expectEqual(t, y, y, true)
		}
	}
	expectEqual(t, api.Term{}, api.Term{}, true)
	expectEqual(t, api.Term{}, tm("x"), false)
	expectEqual(t, api.Term{Kind: api.Constant}, tm("'nil"), false)
}

// TestEqualEmptyLists: an empty list is as good as none.
func TestEqualEmptyLists(t *testing.T) {
	for _, x := range tms("x", "'1", "'(1)", "(f)") {
		y := x
		y.Args = []api.Term{}
		expectEqual(t, x, y, true)
		if y.Kind != api.Constant {
			y.Value.Pair = []api.Object{}
			expectEqual(t, x, y, true)
		}
	}
}

func TestEqualOfEndlessTerms(t *testing.T) {
	for _, make := range []func() api.Term{
		func() api.Term { return endless(1) }, func() api.Term { return endless(7) }, func() api.Term { return endless(5000) }, func() api.Term { return branching(1) }, func() api.Term { return branching(3) },
		func() api.Term { return double(60, tm("x")) }, func() api.Term { return double(60, endless(2)) }, func() api.Term { return nest(60000, tm("x")) },
		func() api.Term { return api.Term{Kind: api.Constant, Value: circle()} }, func() api.Term { return api.Term{Kind: api.Constant, Value: shared(100)} },
	} {
		a, b := make(), make()
		expectEqual(t, a, b, true)
		expectEqual(t, a, a, true)
		expectEqual(t, a, tm("x"), false)
		expectEqual(t, call("f", a, tm("x")), call("f", b, tm("x")), true)
		expectEqual(t, call("f", a, tm("x")), call("f", b, tm("y")), false)
		expectEqual(t, call("f", a, b, tm("x")), call("f", b, a, tm("y")), false)
		expectEqual(t, call("f", a, b, tm("(g x)")), call("f", b, a, tm("(g y)")), false)
	}
	expectEqual(t, endless(2), endless(3), true)
	expectEqual(t, endless(1), nest(60000, tm("x")), false)
	expectEqual(t, branching(2), branching(3), false)
	expectEqual(t, double(60, tm("x")), double(60, tm("y")), false)
	expectEqual(t, double(60, tm("x")), double(61, tm("x")), false)
	expectEqual(t, call("d", double(59, tm("x")), double(59, tm("x"))), call("d", double(59, tm("x")), double(59, tm("y"))), false)
}

// TestEqualOfDifferentPeriods: terms that contain themselves after so many levels that all pairs of these levels would be too many.
func TestEqualOfDifferentPeriods(t *testing.T) {
	for _, n := range []int{10, 3001, 60001} {
		x, y := endless(n), endless(n-1)
		expectEqual(t, x, y, true)
		expectEqual(t, double(50, x), double(50, y), true)
		expectEqual(t, call("f", x, tm("x")), call("f", y, tm("y")), false)
		expectOccurs(t, call("g", x), call("f", tm("(g x)"), call("g", y)), true)
		expectOccurs(t, call("g", x), call("f", tm("(g x)"), call("h", y)), false)
		z := endless(n)
		z.Args[1].Args[1].Args[0] = tm("'2")
		expectEqual(t, x, z, false)
	}
}

// TestEqualOfEndlessStrangers: arguments count also where they do not belong.
func TestEqualOfEndlessStrangers(t *testing.T) {
	for _, kind := range []int{0, api.Variable, api.Constant, 9} {
		stranger := func(s string) api.Term {
			x := api.Term{Kind: kind, Args: tms("x", s)}
			x.Args[0] = x
			return x
		}
		expectEqual(t, stranger("y"), stranger("y"), true)
		expectEqual(t, stranger("y"), stranger("z"), false)
		expectOccurs(t, stranger("y"), call("f", stranger("z"), stranger("y")), true)
		expectOccurs(t, stranger("y"), call("f", stranger("z")), false)
		expectTerm(t, "Replace", Replace(call("f", stranger("y")), stranger("y"), tm("x")), tm("(f x)"))
	}
}

// TestEqualOfOverlappingLists: lists of arguments that begin at the same place, but have different lengths.
func TestEqualOfOverlappingLists(t *testing.T) {
	l, m := tms("x", "y", "z"), tms("x", "y", "a::z")
	expectEqual(t, call("f", l...), call("f", l[:2]...), false)
	expectEqual(t, call("f", l[:2]...), call("f", m[:2]...), true)
	expectEqual(t, call("f", l[1:]...), call("f", l[:2]...), false)
	late := func(l []api.Term) api.Term {
		return call("f", double(13, tm("x")), call("g", l[:2]...), call("g", l...))
	}
	expectEqual(t, late(l), late(m), false)
	expectEqual(t, late(l), late(slices.Clone(l)), true)
	// the same list beside two different ones
	one, other := tms("x", "y"), tms("x", "z")
	large := func(a, b []api.Term) api.Term {
		return call("f", double(13, tm("x")), call("g", a...), call("g", b...))
	}
	expectEqual(t, large(one, one), large(slices.Clone(one), other), false)
	expectEqual(t, large(one, one), large(slices.Clone(one), slices.Clone(one)), true)
	expectEqual(t, large(one, other), large(slices.Clone(one), slices.Clone(one)), false)
}

func TestEqualOfObjects(t *testing.T) {
	for _, a := range []api.Object{obj("1"), obj("(1 . 2)"), chain(1499), chain(9000)} {
		for _, b := range []api.Object{obj("1"), obj("(1 . 2)"), chain(1499), chain(9000), {}} {
			expectEqual(t, api.Term{Kind: api.Constant, Value: a}, api.Term{Kind: api.Constant, Value: b}, object.Equal(a, b))
		}
	}
}
