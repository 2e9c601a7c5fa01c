package match

import (
	"cmp"
	"slices"
	"strings"
	"testing"

	"lispprover/api"
	"lispprover/object"
	"lispprover/term"
)

// P9.4 and P9.6

func expectCompare(t *testing.T, a, b api.Term, want int) {
	t.Helper()
	if Compare(a, b) != want || Compare(b, a) != -want {
		t.Errorf("Compare of %s and %s: %d, %d, want %d", short(a), short(b), Compare(a, b), Compare(b, a), want)
	}
}

// expectAscending expects that each term is before all those that follow, and equal to another copy of itself.
func expectAscending(t *testing.T, l ...string) {
	t.Helper()
	for i, a := range l {
		for j, b := range l {
			expectCompare(t, tm(a), tm(b), cmp.Compare(i, j))
		}
	}
}

func TestCompareExample(t *testing.T) {
	expectCompare(t, tm("(f x)"), tm("y"), 1)
}

// TestCompareSizes: first the occurrences of variables, then the calls, then the nodes of the constants.
func TestCompareSizes(t *testing.T) {
	expectAscending(t, "'1", "'(1 . 2)", "'(1 2)", "'(1 2 3 4 5 6)", "(z)", "(f '1)", "(f '1 '1)", "(f '(1 . 2))", "(a '1 '(1 . 2))", "(f '(1 2))", "(f '1 '1 '1 '1 '1 '1)", "(f (g))", "(f (g '1))", "(f (g (h)))", "(f (f) (f) (f))",
		"z", "(a x)", "(f z)", "(f 'a x)", "(f '(1 . 2) x)", "(a (b x))", "(b (a '1 x))", "(f (b x) '(1 . 2))", "(a (a (a x)))", "(a (a (a (a (a (a (a x '(1 2 3 4))))))))",
		"(z z z)", "(z z 'z z)", "(a (a (a) a) a)", "(a a a a)", "(a '1 a a a)", "(a a a a a)")
	expectAscending(t, "'(1 2 3 4 5 6 7 8 9 10)", "(b '1 '2 '3 '4)", "(a (a))", "x", "(g x)", "(f x x)", "(a '(1 2 3) x x)", "(a x x x)")
}

// TestCompareOccurrences: each occurrence of a variable counts, not each variable.
func TestCompareOccurrences(t *testing.T) {
	expectAscending(t, "(f x y)", "(f x x x)", "(f x x y)", "(f x y z)", "(a a a a a)", "(a a b a a)")
	expectAscending(t, "(g (f x) (f y))", "(f x x x)", "(f (g x x) x (h) y)")
}

// TestCompareConstantsSum: the nodes of all constants are added.
func TestCompareConstantsSum(t *testing.T) {
	expectAscending(t, "(f '2 '3)", "(f '1 '2 '3)", "(f '1 '(1 . 2))", "(f '9 '(1 2))", "(f '(0 . 0) '(0 . 9))", "(f '(1 . 2) '(1 . 2))", "(a '1 '(1 . 1) '(1 . 1))", "(a '1 '1 '1 '1 '1 '1 '1)", "(b '(1 2 3))", "(a '(1 2 3) '0)", "(f '0 '(1 2 3))")
}

// TestCompareStructures has terms of the same sizes.
func TestCompareStructures(t *testing.T) {
	expectAscending(t, "a", "aa", "b", "a::x", "b::x", "x", "z::x", "y")
	expectAscending(t, "'-5", "'0", "'1/2", "'1", "'7", "\"\"", "\"1\"", "\"a\"", "'a", "'nil", "'t", "'a::x", "'x", "'y")
	expectAscending(t, "'(0 . x)", "'(1 . 0)", "'(1 . x)", "'(2 . 0)", "'(\"a\" . 0)", "'(x . 0)", "'(x . y)")
	expectAscending(t, "(a)", "(aa)", "(b)", "(nil)", "(a::x)", "(x)", "(z::x)", "(y)")
	expectAscending(t, "(f x y)", "(f x z)", "(f y x)", "(f z x)", "(g a a)", "(h a b)")
	expectAscending(t, "(f x '1)", "(f x '2)", "(f z '0)", "(f '1 a)", "(f '1 b)", "(f '5 a)", "(g a '1)")
	expectAscending(t, "(f x (g '1))", "(f '1 (a x))", "(f (a x) '1)", "(f x '1 (g))", "(f x (g) '1)", "(f '1 x (a))", "(f '1 (a) x)", "(f (a) x '1)", "(f (a) '1 x)")
}

// TestCompareArguments: the number of arguments comes before the arguments, and after the function.
func TestCompareArguments(t *testing.T) {
	expectAscending(t, "(f (f x y))", "(f x (f y))", "(f y (a x))", "(f (a x) y)", "(f (f x) a)", "(f x y (f))", "(f x (f) y)", "(f (f) x y)", "(g (a a b))", "(g a (a b))", "(g a a (a))")
	expectAscending(t, "(f (g z))", "(f a (g))", "(f (g) a)", "(g (f a))", "(g a (f))")
	expectAscending(t, "(f '9 '9 '9)", "(f '1 '1 '1 '1)", "(g '0 '0 '0 '0)")
}

// tokens returns what decides the order of the structure of t, from left to right, and its sizes.
func tokens(t api.Term) ([]api.Term, [3]int) {
	var sizes [3]int
	l := subterms(t)
	for _, s := range l {
		switch s.Kind {
		case api.Variable:
			sizes[0]++
		case api.Call:
			sizes[1]++
		case api.Constant:
			sizes[2] += strings.Count(objectText(s.Value, 50), ".")*2 + 1
		}
	}
	return l, sizes
}

// modelCompare compares the subterms of both terms one after the other, without their arguments.
func modelCompare(a, b api.Term) int {
	l, of := tokens(a)
	m, other := tokens(b)
	if order := slices.Compare(of[:], other[:]); order != 0 {
		return order
	}
	return slices.CompareFunc(l, m, func(x, y api.Term) int {
		return cmp.Or(cmp.Compare(x.Kind, y.Kind), strings.Compare(x.Name.Name, y.Name.Name), strings.Compare(x.Name.Package, y.Name.Package), object.Compare(x.Value, y.Value), cmp.Compare(len(x.Args), len(y.Args)))
	})
}

// TestRandomOrder also tests P9.6: the order is total, and only equal terms are not different.
func TestRandomOrder(t *testing.T) {
	m := newMaker(6)
	m.functions = syms("f g a::f x nil")
	for _, most := range []int{1, 2, 3} {
		m.most = most
		var l []api.Term
		for range 1000 {
			l = append(l, m.term(1+m.Intn(4)))
			if m.Intn(3) == 0 {
				l = append(l, term.Replace(l[len(l)-1], pick(m.Rand, subterms(l[len(l)-1])), m.term(1)))
			}
		}
		for i := range 100000 {
			a, b := pick(m.Rand, l), pick(m.Rand, l)
			expectCompare(t, a, b, modelCompare(a, b))
			if (Compare(a, b) == 0) != same(a, b) {
				t.Errorf("Compare of %s and %s: %d", text(a), text(b), Compare(a, b))
			}
			if i < len(l) {
				expectCompare(t, l[i], copied(l[i]), 0)
			}
		}
		slices.SortFunc(l, Compare)
		for i := range l {
			expectCompare(t, l[i], l[len(l)/2], cmp.Compare(modelCompare(l[i], l[len(l)/2]), 0))
			if i > 0 && modelCompare(l[i-1], l[i]) > 0 {
				t.Errorf("%s is sorted before %s", text(l[i-1]), text(l[i]))
			}
		}
	}
}

// copied returns an equal term with memory of its own.
func copied(t api.Term) api.Term {
	var args []api.Term
	for _, a := range t.Args {
		args = append(args, copied(a))
	}
	t.Args = args
	return t
}

// TestTransitivity: P9.6.
func TestTransitivity(t *testing.T) {
	m := newMaker(7)
	for range 20000 {
		a, b, c := m.term(1+m.Intn(3)), m.term(1+m.Intn(3)), m.term(1+m.Intn(3))
		if Compare(a, b) <= 0 && Compare(b, c) <= 0 && Compare(a, c) > 0 {
			t.Errorf("Compare of %s, %s and %s", text(a), text(b), text(c))
		}
	}
}

// TestSubtermsComeFirst: P9.6: a proper subterm that contains as many variables as the term comes before it.
func TestSubtermsComeFirst(t *testing.T) {
	m := newMaker(8)
	m.most = 2
	checked := 0
	for range 5000 {
		x := m.term(1 + m.Intn(5))
		for _, s := range subterms(x)[1:] {
			if occurrences(s) == occurrences(x) {
				checked++
				expectCompare(t, s, x, -1)
			}
		}
	}
	if checked < 2000 {
		t.Errorf("%d checked", checked)
	}
}

// TestCompareLargestTerms has valid terms at the limits.
func TestCompareLargestTerms(t *testing.T) {
	x, y, z := nest(api.MaxDepth-1, tm("x")), nest(api.MaxDepth-1, tm("y")), nest(api.MaxDepth-2, tm("z"))
	expectValidTerms(t, x, y, z)
	expectCompare(t, x, y, -1)
	expectCompare(t, z, x, -1)
	expectCompare(t, x, nest(api.MaxDepth-1, tm("x")), 0)
	l := vars("v", 2500)
	a, b := group(l), group(append(slices.Clone(l[:2499]), tm("w")))
	expectValidTerms(t, a, b)
	expectCompare(t, a, b, -1)
	expectCompare(t, a, group(slices.Clone(l)), 0)
	expectCompare(t, a, group(l[1:]), 1)
	expectCompare(t, a, group(append(slices.Clone(l[1:]), l[0])), -1)
	long, longer := term.Const(chain(1498)), term.Const(chain(1499))
	expectCompare(t, long, longer, -1)
	expectCompare(t, longer, tm("(a)"), -1)
	expectCompare(t, call("f", long), call("f", longer), -1)
	expectCompare(t, call("f", long, tm("'2")), call("f", tm("'2"), long), 1)
	expectCompare(t, call("f", long, tm("'2")), call("f", longer), -1)
	expectCompare(t, call("f", long, tm("'2"), tm("'3")), call("f", longer), 1)
	expectCompare(t, call("f", long, tm("'2"), tm("'3")), call("g", longer), -1)
}

// TestCompareBeyondTheLimits has terms that are not valid, but for which the description determines a result.
func TestCompareBeyondTheLimits(t *testing.T) {
	for _, n := range []int{11, 12, 13, 20} {
		x := double(n, tm("(g x)"))
		expectCompare(t, x, double(n, tm("(g x)")), 0)
		expectCompare(t, x, x, 0)
		expectCompare(t, x, double(n, tm("(g y)")), -1)
		expectCompare(t, x, double(n, tm("(f x)")), 1)
		expectCompare(t, x, double(n, tm("(f x '1)")), -1)
		expectCompare(t, x, double(n, tm("(a x x)")), -1)
		expectCompare(t, x, double(n-1, tm("(g x)")), 1)
		expectCompare(t, x, double(n-1, tm("(g (g (g x)))")), 1)
		expectCompare(t, x, double(n-1, tm("(a x (g x))")), 1)
		expectCompare(t, x, double(n-1, tm("(e (g x) x)")), 1)
		expectCompare(t, x, double(n-1, tm("(a (g x) (g x))")), 1)
		expectCompare(t, x, double(n-1, tm("(e (g x) (g x))")), -1)
		expectCompare(t, call("f", x, tm("x")), call("f", x, tm("y")), -1)
		expectCompare(t, call("f", tm("x"), x), call("f", x, tm("x")), -1)
		expectCompare(t, call("f", x, x, tm("'(1 2)")), call("f", x, x, tm("'(1 . 2)")), 1)
	}
	for _, n := range []int{3000, 3001, 10000} {
		wide := call("f", slices.Repeat(tms("x", "(g x)", "'1"), n)...)
		expectCompare(t, wide, call("f", append(slices.Repeat(tms("x", "(g x)", "'1"), n-1), tms("x", "(g y)", "'1")...)...), -1)
		expectCompare(t, wide, call("a", slices.Repeat(tms("x", "(g x)", "'2"), n)...), 1)
		expectCompare(t, wide, call("f", slices.Repeat(tms("'1", "x", "(g x)"), n)...), -1)
		expectCompare(t, wide, call("f", slices.Repeat(tms("x", "(a x)", "'1"), n+1)...), -1)
		expectCompare(t, wide, call("f", slices.Repeat(tms("x", "(g x)", "'1"), n)...), 0)
	}
	deep := 1<<16 - 1
	expectCompare(t, nest(deep, tm("x")), nest(deep, tm("x")), 0)
	expectCompare(t, nest(deep, tm("x")), nest(deep, tm("y")), -1)
	expectCompare(t, nest(deep, tm("x")), nest(deep-1, tm("y")), 1)
}

// TestCompareFarBeyond has terms with far more nodes than memory; their sizes do not count any more, but the order of terms of the same structure is as it should be.
func TestCompareFarBeyond(t *testing.T) {
	for _, n := range []int{32, 64, 100, 1000} {
		x := double(n, tm("(g x)"))
		expectCompare(t, x, double(n, tm("(g x)")), 0)
		expectCompare(t, x, double(n, tm("(g y)")), -1)
		expectCompare(t, call("f", x, tm("y")), call("f", double(n, tm("(g x)")), tm("x")), 1)
		expectCompare(t, call("f", x, x), call("f", double(n, tm("(g x)")), double(n, tm("(g z)"))), -1)
		expectCompare(t, x, tm("(g (g x))"), 1)
	}
}
