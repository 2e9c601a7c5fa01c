package term

import (
	"reflect"
	"slices"
	"strconv"
	"strings"
	"testing"

	"lispprover/api"
	"lispprover/object"
)

// P8.1: Var, Const, App and Lisp; P8.3: At and Put

// symbols are symbols that are valid and others.
func symbols() []api.Symbol {
	return append(syms("x nil t quote a::x a::nil b::t"), api.Symbol{}, api.Symbol{Package: "A", Name: "x"}, api.Symbol{Package: "lisp"}, api.Symbol{Name: "x"}, api.Symbol{Package: "lisp", Name: strings.Repeat("x", api.MaxName+1)})
}

func TestVar(t *testing.T) {
	for _, s := range symbols() {
		if got := Var(s); !reflect.DeepEqual(got, api.Term{Kind: api.Variable, Name: s}) {
			t.Errorf("Var(%v): %+v", s, got)
		}
	}
}

func TestConst(t *testing.T) {
	for _, o := range []api.Object{obj("nil"), obj("x"), obj("1/2"), obj("(a . b)"), {}, {Kind: 7}, chain(5000), object.Text(strings.Repeat("a", 500))} {
		if got := Const(o); !reflect.DeepEqual(got, api.Term{Kind: api.Constant, Value: o}) {
			t.Errorf("Const(%s): %+v", objectText(o, 5), got)
		}
	}
}

func TestApp(t *testing.T) {
	for _, s := range symbols() {
		if got := App(s); got.Kind != api.Call || got.Name != s || len(got.Args) != 0 || !reflect.DeepEqual(got.Value, api.Object{}) {
			t.Errorf("App(%v): %+v", s, got)
		}
		expectTerm(t, "App of x and {}", App(s, tm("x"), api.Term{}), api.Term{Kind: api.Call, Name: s, Args: []api.Term{tm("x"), {}}})
	}
	expectTerm(t, "App(f)", App(sym("a::f")), tm("(a::f)"))
	expectTerm(t, "App(f, x, (g y), '1)", App(sym("f"), tm("x"), tm("(g y)"), tm("'1")), tm("(f x (g y) '1)"))
	for n := range 20 {
		args := slices.Repeat(tms("x"), n)
		expectTerm(t, "App of "+strconv.Itoa(n), App(sym("f"), args...), tm("(f"+strings.Repeat(" x", n)+")"))
	}
}

func TestLisp(t *testing.T) {
	expectTerm(t, "Lisp(car, x)", Lisp("car", tm("x")), tm("(lisp::car x)"))
	expectTerm(t, "Lisp(cons, x, y)", Lisp("cons", tm("a::x"), tm("y")), tm("(cons a::x y)"))
	expectTerm(t, "Lisp(f)", Lisp("f"), tm("(f)"))
	expectTerm(t, "Lisp of no name", Lisp(""), api.Term{Kind: api.Call, Name: api.Symbol{Package: "lisp"}})
	expectTerm(t, "Lisp(nil)", Lisp("nil", api.Term{}), api.Term{Kind: api.Call, Name: sym("nil"), Args: []api.Term{{}}})
}

// TestCallsAreNew: a call keeps its arguments when the slice is used again.
func TestCallsAreNew(t *testing.T) {
	args := tms("x", "y")
	f, g := App(sym("f"), args...), Lisp("g", args...)
	args[0], args[1] = tm("'1"), tm("'2")
	expectTerm(t, "App", f, tm("(f x y)"))
	expectTerm(t, "Lisp", g, tm("(g x y)"))
}

func expectAt(t *testing.T, s string, path []int, want string) {
	t.Helper()
	got, is := At(tm(s), path)
	expectFound(t, "At of "+s, got, is, tm(want))
}

func TestAt(t *testing.T) {
	expectAt(t, "(f (g x))", []int{0, 0}, "x")
	expectAt(t, "(f (g x))", []int{0}, "(g x)")
	expectAt(t, "(f (g x))", nil, "(f (g x))")
	expectAt(t, "(f (g x))", []int{}, "(f (g x))")
	expectAt(t, "x", nil, "x")
	expectAt(t, "'(a b)", nil, "'(a b)")
	expectAt(t, "(f x '(1 2) (g y (h)))", []int{1}, "'(1 2)")
	expectAt(t, "(f x '(1 2) (g y (h)))", []int{2, 0}, "y")
	expectAt(t, "(f x '(1 2) (g y (h)))", []int{2, 1}, "(h)")
}

// missing are terms and paths that lead nowhere.
func missing() map[string][][]int {
	most := int(^uint(0) >> 1)
	return map[string][][]int{
		"x":                       {{0}, {-1}, {1}, {0, 0}},
		"'(a b)":                  {{0}, {1}, {0, 0}, {-1}},
		"(f)":                     {{0}, {-1}, {most}, {-most - 1}},
		"(f (g x))":               {{1}, {-1}, {0, 1}, {0, -1}, {0, 0, 0}, {1, 0}, {-1, 0}, {most}, {-most - 1}, {0, most}},
		"(f x '(1 2) (g y (h)))":  {{3}, {0, 0}, {1, 0}, {1, 1}, {2, 2}, {2, 0, 0}, {2, 1, 0}, {2, -1}, {3, 0}},
		"(quote (f x))":           {{0}},
		"(f x x x x x x x x)":     {{8}, {-8}},
		"(f (f (f (f x))))":       {{0, 0, 0, 1}, {0, 0, 1, 0}, {0, 0, 0, 0, 0}},
		"(f x x x x x x x (g x))": {{7, 1}, {6, 0}},
	}
}

func TestAtNothing(t *testing.T) {
	for s, paths := range missing() {
		for _, p := range paths {
			got, is := At(tm(s), p)
			expectNone(t, "At of "+s, got, is)
		}
	}
}

func expectPut(t *testing.T, s string, path []int, new, want string) {
	t.Helper()
	before, other := tm(s), tm(new)
	got, is := Put(before, path, other)
	expectFound(t, "Put of "+s, got, is, tm(want))
	expectTerm(t, "the term before Put", before, tm(s))
	expectTerm(t, "the new term after Put", other, tm(new))
}

func TestPut(t *testing.T) {
	expectPut(t, "(f (g x))", []int{0, 0}, "y", "(f (g y))")
	expectPut(t, "(f (g x))", []int{0}, "y", "(f y)")
	expectPut(t, "(f (g x))", nil, "y", "y")
	expectPut(t, "(f (g x))", []int{}, "(f (g x))", "(f (g x))")
	expectPut(t, "x", nil, "'1", "'1")
	expectPut(t, "'(a b)", nil, "(h x)", "(h x)")
	expectPut(t, "(f x x x)", []int{1}, "(f x x x)", "(f x (f x x x) x)")
	expectPut(t, "(f x '(1 2) (g y (h)))", []int{2, 1}, "'t", "(f x '(1 2) (g y 't))")
	expectPut(t, "(f x '(1 2) (g y (h)))", []int{1}, "z", "(f x z (g y (h)))")
	expectPut(t, "(f x '(1 2) (g y (h)))", []int{2}, "z", "(f x '(1 2) z)")
}

func TestPutNothing(t *testing.T) {
	for s, paths := range missing() {
		for _, p := range paths {
			before := tm(s)
			got, is := Put(before, p, tm("y"))
			expectNone(t, "Put of "+s, got, is)
			expectTerm(t, "the term before Put", before, tm(s))
		}
	}
}

// TestPutAtOneOfTwo: a part that lies at two positions changes at one of them only.
func TestPutAtOneOfTwo(t *testing.T) {
	part := tm("(g x y)")
	got, is := Put(call("f", part, part), []int{1, 0}, tm("z"))
	expectFound(t, "Put", got, is, tm("(f (g x y) (g z y))"))
	expectTerm(t, "the part after Put", part, tm("(g x y)"))
}

// TestPutBeyondTheLimits: the result may exceed the limits.
func TestPutBeyondTheLimits(t *testing.T) {
	deep := nest(api.MaxDepth-1, tm("x"))
	got, is := Put(deep, slices.Repeat([]int{0}, api.MaxDepth-1), deep)
	expectFound(t, "Put", got, is, nest(2*api.MaxDepth-2, tm("x")))
	got, is = Put(tm("(f x)"), []int{0}, Const(chain(1499)))
	expectFound(t, "Put", got, is, call("f", api.Term{Kind: api.Constant, Value: chain(1499)}))
}
