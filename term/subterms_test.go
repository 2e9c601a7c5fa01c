package term

import (
	"slices"
	"strconv"
	"testing"

	"lispprover/api"
)

// P8.1: Ground; P8.2

func expectGround(t *testing.T, x api.Term, want bool) {
	t.Helper()
	if Ground(x) != want {
		t.Errorf("Ground(%s): %v", short(x), !want)
	}
}

func TestGround(t *testing.T) {
	for _, x := range tms("'1", "'x", "'(f x)", "'nil", "(f)", "(x)", "(f '1)", "(f 'x (g) '(x y))", "(f (g (h '1)))") {
		expectGround(t, x, true)
	}
	for _, x := range tms("x", "a::x", "(f x)", "(f '1 x)", "(f x '1)", "(f '1 (g '2 (h x)) '3)", "(f (g) y)", "(f (f (f x)))") {
		expectGround(t, x, false)
	}
}

func TestVariables(t *testing.T) {
	for s, want := range map[string]string{
		"x": "x", "'x": "", "'(f x)": "", "(x)": "", "(f)": "", "(f x)": "x", "(f x x)": "x", "(f x y x)": "x y", "(f y x y)": "y x", "(f (g z) x (h z y))": "z x y",
		"(f a::x x b::x)": "a::x x b::x", "(x (y x) y)": "x y", "(f 'x y)": "y", "(f x (f y (f z)) a::x)": "x y z a::x", "(f (f (f z) y) x)": "z y x",
	} {
		expectSymbols(t, "Variables("+s+")", Variables(tm(s)), want)
	}
}

func TestVariablesOfSeveral(t *testing.T) {
	expectSymbols(t, "Variables()", Variables(), "")
	expectSymbols(t, "Variables of an empty slice", Variables([]api.Term{}...), "")
	expectSymbols(t, "Variables", Variables(tms("x", "y")...), "x y")
	expectSymbols(t, "Variables", Variables(tms("y", "x", "y")...), "y x")
	expectSymbols(t, "Variables", Variables(tms("(f x y)", "'z", "(g y z x)", "(h)", "a::x")...), "x y z a::x")
	expectSymbols(t, "Variables", Variables(tms("'1", "(f)", "'x")...), "")
}

func TestFunctions(t *testing.T) {
	for s, want := range map[string]string{
		"x": "", "'x": "", "'(f x)": "", "(f)": "f", "(f x)": "f", "(f (f x))": "f", "(f (g x) (f y) (h))": "f g h", "(g (h (f x)) (f))": "g h f",
		"(a::f (f (b::f)))": "a::f f b::f", "(x x)": "x", "(f '(g x) (h))": "f h", "(f (g (h x) (i)) (h y) (j))": "f g h i j", "(nil (t))": "nil t", "(f (quote (g x)))": "f",
	} {
		expectSymbols(t, "Functions("+s+")", Functions(tm(s)), want)
	}
}

func TestFunctionsOfSeveral(t *testing.T) {
	expectSymbols(t, "Functions()", Functions(), "")
	expectSymbols(t, "Functions of an empty slice", Functions([]api.Term{}...), "")
	expectSymbols(t, "Functions", Functions(tms("(f x)", "x", "(g (f x))", "'(h)", "(f (h))")...), "f g h")
	expectSymbols(t, "Functions", Functions(tms("x", "'1")...), "")
	// a call is a function of this name also if the number of arguments differs
	expectSymbols(t, "Functions", Functions(tms("(f)", "(f x)", "(f x y)")...), "f")
	expectSymbols(t, "Functions of a call of quote", Functions(call("quote", tm("(f x)"))), "quote f")
}

// TestManyNames has more names than any term may have.
func TestManyNames(t *testing.T) {
	var l []api.Term
	for i := range 20000 {
		name := api.Symbol{Package: "a", Name: "n" + strconv.Itoa(i)}
		l = append(l, api.Term{Kind: api.Call, Name: name, Args: []api.Term{{Kind: api.Variable, Name: name}}})
	}
	l = append(l, l...)
	for _, names := range [][]api.Symbol{Variables(l...), Functions(l...)} {
		if len(names) != 20000 {
			t.Fatalf("%d names", len(names))
		}
		for i, s := range names {
			if s != l[i].Name {
				t.Fatalf("the name %d is %v", i, s)
			}
		}
	}
}

func expectOccurs(t *testing.T, a, b api.Term, want bool) {
	t.Helper()
	if Occurs(a, b) != want {
		t.Errorf("Occurs(%s, %s): %v", short(a), short(b), !want)
	}
}

func TestOccurs(t *testing.T) {
	big := tm("(f x (g '(1 2) (h y)) (k) 'z)")
	for _, x := range tms("(f x (g '(1 2) (h y)) (k) 'z)", "x", "(g '(1 2) (h y))", "'(1 2)", "(h y)", "y", "(k)", "'z") {
		expectOccurs(t, x, big, true)
	}
	for _, x := range tms("'x", "z", "'1", "'2", "'(2)", "'nil", "(h x)", "(h)", "(k x)", "k", "f", "(f)", "'y", "a::x", "(g '(1 2))", "(g '(1 2) (h y) x)") {
		expectOccurs(t, x, big, false)
	}
	for i, a := range different() {
		for j, b := range different() {
			if i == j {
				expectOccurs(t, a, b, true)
			}
			expectOccurs(t, a, call("only", b), i == j || slices.Contains(inside(b), text(a)))
		}
	}
}

// inside returns the texts of the proper subterms of x.
func inside(x api.Term) []string {
	var l []string
	for _, a := range x.Args {
		l = append(append(l, text(a)), inside(a)...)
	}
	return l
}

// TestLargeTerms: subterms of terms with far more nodes than memory.
func TestLargeTerms(t *testing.T) {
	for _, n := range []int{11, 12, 100, 1000} {
		x := call("f", double(n, tm("'1")), tm("(g y)"))
		expectGround(t, x, false)
		expectGround(t, double(n, tm("'1")), true)
		expectGround(t, double(n, tm("x")), false)
		expectSymbols(t, "Variables", Variables(x, double(n, tm("z"))), "y z")
		expectSymbols(t, "Functions", Functions(double(n, tm("(h)")), x), "d h f g")
		expectOccurs(t, tm("(g y)"), x, true)
		expectOccurs(t, tm("(g z)"), x, false)
		expectOccurs(t, double(n-5, tm("'1")), x, true)
		expectOccurs(t, double(n-5, tm("'2")), x, false)
	}
	l := tms("x", "y", "z")
	expectSymbols(t, "Variables of overlapping lists", Variables(double(13, tm("'1")), call("f", l[:1]...), call("f", l[1:2]...), call("f", l...)), "x y z")
}

func TestEndlessTerms(t *testing.T) {
	expectSymbols(t, "Variables", Variables(endless(3), tm("(g y)")), "y")
	expectSymbols(t, "Functions", Functions(endless(3), tm("(g y)")), "e g")
	expectGround(t, endless(3), true)
	expectGround(t, call("f", branching(3), tm("x")), false)
	expectOccurs(t, tm("x"), call("f", branching(3), tm("x")), true)
	expectOccurs(t, tm("x"), branching(3), false)
	expectOccurs(t, endless(2), call("f", endless(3)), true)
}
