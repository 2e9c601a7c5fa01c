package term

import (
	"slices"
	"testing"

	"lispprover/api"
)

// P8.3: Substitute and Replace; P8.4

func expectSubstitute(t *testing.T, s string, by []api.Assign, want string) {
	t.Helper()
	before := tm(s)
	expectTerm(t, "Substitute of "+s, Substitute(before, by), tm(want))
	expectTerm(t, "the term before Substitute", before, tm(s))
}

func TestSubstitute(t *testing.T) {
	expectSubstitute(t, "(f x y)", subst("x", "y", "y", "x"), "(f y x)")
	expectSubstitute(t, "x", subst("x", "y"), "y")
	expectSubstitute(t, "x", subst("y", "z"), "x")
	expectSubstitute(t, "x", nil, "x")
	expectSubstitute(t, "x", []api.Assign{}, "x")
	expectSubstitute(t, "(f x (g x) 'x (x))", subst("x", "'1"), "(f '1 (g '1) 'x (x))")
	expectSubstitute(t, "(f x y z)", subst("x", "(g x y)", "y", "(h z)", "z", "'z"), "(f (g x y) (h z) 'z)")
	expectSubstitute(t, "(f x)", subst("x", "(f x)"), "(f (f x))")
	expectSubstitute(t, "(f a::x x)", subst("a::x", "x", "x", "b::x"), "(f x b::x)")
	expectSubstitute(t, "(f)", subst("f", "y"), "(f)")
	expectSubstitute(t, "'(x y)", subst("x", "y"), "'(x y)")
	expectSubstitute(t, "'x", subst("x", "y"), "'x")
	expectSubstitute(t, "(f (g (h x) y) (h x) x)", subst("y", "(g x y)"), "(f (g (h x) (g x y)) (h x) x)")
	expectSubstitute(t, "(f (g y) (g z) (g y))", subst("y", "z", "z", "y", "x", "t"), "(f (g z) (g y) (g z))")
}

// TestSubstituteFirst: the first assignment of a variable counts.
func TestSubstituteFirst(t *testing.T) {
	expectSubstitute(t, "(f x y)", subst("x", "'1", "x", "'2", "y", "x", "y", "'3"), "(f '1 x)")
	expectSubstitute(t, "(f x y)", subst("x", "x", "x", "'2"), "(f x y)")
}

func expectReplace(t *testing.T, s, old, new, want string) {
	t.Helper()
	before := tm(s)
	expectTerm(t, "Replace of "+old+" in "+s, Replace(before, tm(old), tm(new)), tm(want))
	expectTerm(t, "the term before Replace", before, tm(s))
}

func TestReplace(t *testing.T) {
	expectReplace(t, "x", "x", "y", "y")
	expectReplace(t, "x", "y", "z", "x")
	expectReplace(t, "(f x)", "(f x)", "x", "x")
	expectReplace(t, "(f x y x)", "x", "(g x)", "(f (g x) y (g x))")
	expectReplace(t, "(f (f x))", "(f x)", "x", "(f x)")
	expectReplace(t, "(f (f (f (f x))))", "(f (f x))", "x", "(f (f x))")
	expectReplace(t, "(f (g x) (h (g x)) (g y))", "(g x)", "z", "(f z (h z) (g y))")
	expectReplace(t, "(f (g x))", "x", "(g x)", "(f (g (g x)))")
	expectReplace(t, "(f 'x x (x))", "'x", "x", "(f x x (x))")
	expectReplace(t, "(f 'x x (x))", "x", "'x", "(f 'x 'x (x))")
	expectReplace(t, "(f 'x x (x))", "(x)", "y", "(f 'x x y)")
	expectReplace(t, "(f '(1 2) '1)", "'1", "'3", "(f '(1 2) '3)")
	expectReplace(t, "(f '(1 2) '1)", "'(1 2)", "'3", "(f '3 '1)")
	expectReplace(t, "(f x (g (h y) (h y)))", "(h y)", "y", "(f x (g y y))")
	expectReplace(t, "(f x y)", "f", "g", "(f x y)")
	expectReplace(t, "(f x y)", "(f x)", "z", "(f x y)")
	expectReplace(t, "(f x a::x)", "a::x", "y", "(f x y)")
}

// expectInstance also expects that none of the arguments is changed.
func expectInstance(t *testing.T, s string, want string, l ...api.Lambda) {
	t.Helper()
	before, body := tm(s), ""
	if len(l) > 0 {
		body = text(l[0].Body)
	}
	expectTerm(t, "Instance of "+s, Instance(before, l), tm(want))
	expectTerm(t, "the term before Instance", before, tm(s))
	if len(l) > 0 && text(l[0].Body) != body {
		t.Errorf("Instance of %s changed a body", s)
	}
}

func TestInstance(t *testing.T) {
	swap := lambda("f", "x y", "(g y x)")
	expectInstance(t, "(f x y)", "(f x y)")
	expectInstance(t, "(f '1 '2)", "(g '2 '1)", swap)
	expectInstance(t, "(f x y)", "(g y x)", swap)
	expectInstance(t, "(f y x)", "(g x y)", swap)
	expectInstance(t, "(f (f '1 '2) '3)", "(g '3 (g '2 '1))", swap)
	expectInstance(t, "(h (f z '1) f 'f '(f 1 2))", "(h (g '1 z) f 'f '(f 1 2))", swap)
	expectInstance(t, "x", "x", swap)
	expectInstance(t, "'(f x y)", "'(f x y)", swap)
	expectInstance(t, "(a::f x y)", "(a::f x y)", swap)
	expectInstance(t, "(f)", "'1", lambda("f", "", "'1"))
	expectInstance(t, "(h (f) (g (f)))", "(h y (g y))", lambda("f", "", "y"))
	expectInstance(t, "(f x)", "'1", lambda("f", "y", "'1"))
	expectInstance(t, "(f '1)", "x", lambda("f", "y", "x"))
	expectInstance(t, "(f '1)", "(h '1 x '1)", lambda("f", "y", "(h y x y)"))
	expectInstance(t, "(h x (k y) (k (f '1)))", "(h x (k y) (k (g '1)))", lambda("f", "x", "(g x)"))
}

// TestInstanceIsNotRepeated: the functions in a body stay.
func TestInstanceIsNotRepeated(t *testing.T) {
	expectInstance(t, "(f '1)", "(f (f '1))", lambda("f", "x", "(f (f x))"))
	expectInstance(t, "(f (f '1))", "(f (f (f (f '1))))", lambda("f", "x", "(f (f x))"))
	expectInstance(t, "(f (g '1))", "(g (f '1))", lambda("f", "x", "(g x)"), lambda("g", "x", "(f x)"))
	expectInstance(t, "(h (f x) (g x))", "(h (g x) (f x))", lambda("f", "x", "(g x)"), lambda("g", "x", "(f x)"))
}

// TestInstanceNumberOfArguments: a call with another number of arguments stays, but its arguments do not.
func TestInstanceNumberOfArguments(t *testing.T) {
	one := lambda("f", "x", "(g x)")
	expectInstance(t, "(f)", "(f)", one)
	expectInstance(t, "(f x y)", "(f x y)", one)
	expectInstance(t, "(f (f x) y)", "(f (g x) y)", one)
	expectInstance(t, "(f (f (f x) (f)))", "(g (f (g x) (f)))", one)
	expectInstance(t, "(f x)", "(f x)", lambda("f", "", "'1"))
}

// TestInstanceFirst: the first element with the name of the function counts, also if it does not fit.
func TestInstanceFirst(t *testing.T) {
	one, two := lambda("f", "x", "(g x)"), lambda("f", "x y", "(h x y)")
	expectInstance(t, "(k (f '1) (f '1 '2))", "(k (g '1) (f '1 '2))", one, two)
	expectInstance(t, "(k (f '1) (f '1 '2))", "(k (f '1) (h '1 '2))", two, one)
	expectInstance(t, "(f '1)", "(g '1)", lambda("a::f", "x", "'3"), one, lambda("f", "x", "'4"))
	expectInstance(t, "(f x)", "(g x)", lambda("k", "", "x"), one, lambda("f", "x", "'4"))
}

// TestInstanceAsBySubstitute: of a parameter that occurs twice, the first one counts; all parameters are replaced at once.
func TestInstanceAsBySubstitute(t *testing.T) {
	expectInstance(t, "(f '1 '2)", "(g '1)", lambda("f", "x x", "(g x)"))
	expectInstance(t, "(f y x)", "(g y x)", lambda("f", "x y", "(g x y)"))
	expectInstance(t, "(f (g y) (h x))", "(g (g y) (h x) (g y))", lambda("f", "x y", "(g x y x)"))
	expectInstance(t, "(f '1 '2 '3 '4 '5 '6 '7 '8)", "(g '8 '1)", lambda("f", "a b c d e f g h", "(g h a)"))
}

// TestEditBeyondTheLimits: the results may exceed the limits.
func TestEditBeyondTheLimits(t *testing.T) {
	deep := nest(api.MaxDepth-1, tm("x"))
	expectTerm(t, "Substitute", Substitute(deep, []api.Assign{{Var: sym("x"), Term: deep}}), nest(2*api.MaxDepth-2, tm("x")))
	expectTerm(t, "Replace", Replace(deep, tm("x"), deep), nest(2*api.MaxDepth-2, tm("x")))
	twice := Instance(deep, []api.Lambda{lambda("f", "y", "(f (f y))")})
	expectTerm(t, "Instance", twice, nest(2*api.MaxDepth-2, tm("x")))
	if !Equal(Instance(deep, []api.Lambda{lambda("f", "y", "(d y y)")}), double(api.MaxDepth-1, tm("x"))) {
		t.Error("Instance with far more nodes than memory")
	}
	wide := call("f", slices.Repeat(tms("x"), api.MaxParams)...)
	expectTerm(t, "Substitute", Substitute(wide, []api.Assign{{Var: sym("x"), Term: wide}}), call("f", slices.Repeat([]api.Term{wide}, api.MaxParams)...))
	big := api.Term{Kind: api.Constant, Value: chain(1499)}
	expectTerm(t, "Replace", Replace(wide, tm("x"), big), call("f", slices.Repeat([]api.Term{big}, api.MaxParams)...))
}

// TestEditLargeTerms has terms that exceed the limits before they are changed.
func TestEditLargeTerms(t *testing.T) {
	expectSame := func(what string, got, want api.Term) {
		t.Helper()
		if !Equal(got, want) {
			t.Errorf("%s: %s, want %s", what, short(got), short(want))
		}
	}
	for _, n := range []int{11, 12, 100, 1000} {
		x, y := double(n, tm("(g x)")), double(n, tm("(g y)"))
		expectSame("Substitute", Substitute(x, subst("x", "y")), y)
		expectSame("Substitute", Substitute(x, subst("y", "z")), x)
		expectSame("Substitute", Substitute(call("f", x, tm("y"), x), subst("x", "y")), call("f", y, tm("y"), y))
		expectSame("Replace", Replace(x, tm("(g x)"), tm("(g y)")), y)
		expectSame("Replace", Replace(x, double(5, tm("(g x)")), tm("(g y)")), double(n-5, tm("(g y)")))
		expectSame("Instance", Instance(x, []api.Lambda{lambda("g", "x", "(g y)")}), y)
		expectSame("Instance", Instance(x, []api.Lambda{lambda("d", "x y", "(d y x)")}), x)
		expectSame("Instance", Instance(x, []api.Lambda{lambda("d", "x y", "x")}), tm("(g x)"))
	}
	wide := call("f", slices.Repeat(tms("x", "(g x)"), 5000)...)
	expectSame("Substitute", Substitute(wide, subst("x", "y")), call("f", slices.Repeat(tms("y", "(g y)"), 5000)...))
	l := tms("x", "y", "x")
	lists := call("f", double(13, tm("x")), call("g", l[:2]...), call("g", l...), call("g", l[1:]...))
	expectSame("Substitute in overlapping lists", Substitute(lists, subst("x", "y", "y", "z")), call("f", double(13, tm("y")), tm("(g y z)"), tm("(g y z y)"), tm("(g z y)")))
}

// TestEditSharesWhatStays: what is not changed is not copied.
func TestEditSharesWhatStays(t *testing.T) {
	x := tm("(f (g x y) (h y))")
	for what, got := range map[string]api.Term{
		"Substitute": Substitute(x, subst("x", "'1")), "Replace": Replace(x, tm("x"), tm("'1")), "Instance": Instance(x, []api.Lambda{lambda("g", "x y", "'1")}),
	} {
		if &got.Args[1].Args[0] != &x.Args[1].Args[0] {
			t.Errorf("%s copied (h y)", what)
		}
	}
	for what, got := range map[string]api.Term{
		"Substitute": Substitute(x, subst("z", "'1")), "Replace": Replace(x, tm("z"), tm("'1")), "Instance": Instance(x, []api.Lambda{lambda("g", "x", "'1")}),
	} {
		if &got.Args[0] != &x.Args[0] {
			t.Errorf("%s copied a term that it did not change", what)
		}
	}
}
