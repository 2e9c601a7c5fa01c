package translate

import (
	"slices"
	"testing"

	"lispprover/api"
	"lispprover/object"
	"lispprover/term"
)

// P12.3 and P12.4

func expectForm(t *testing.T, x api.Term, want api.Object) {
	t.Helper()
	if o := Form(x); !object.Equal(o, want) {
		t.Errorf("Form of %s: %s, want %s", textOf(x), text(o), text(want))
	}
}

func TestForm(t *testing.T) {
	for _, c := range []pair{
		{"x", "x"}, {"a::x", "a::x"}, {"a::nil", "a::nil"}, {"car", "car"}, {"'nil", "nil"}, {"'t", "t"}, {"'0", "0"}, {"'-7/3", "-7/3"}, {"'\"\"", "\"\""}, {"'\"x\"", "\"x\""},
		{"'x", "(quote x)"}, {"'a::nil", "(quote a::nil)"}, {"'a::t", "(quote a::t)"}, {"'car", "(quote car)"}, {"'(a . b)", "(quote (a . b))"}, {"'(nil)", "(quote (nil))"}, {"'(quote x)", "(quote (quote x))"}, {"'(1 2 \"s\")", "(quote (1 2 \"s\"))"},
		{"(five)", "(five)"}, {"(car x)", "(car x)"}, {"(car 'x)", "(car 'x)"}, {"(f x '1 '(1) (g) \"s\" 't)", "(f x 1 '(1) (g) \"s\" t)"}, {"(cons (cons x 'nil) (cons '\"y\" 'y))", "(cons (cons x nil) (cons \"y\" 'y))"}, {"(a::f (none (none)))", "(a::f (none (none)))"}, {"(nil t2)", "(nil t2)"}, {"(list (and x))", "(list (and x))"}, {"(f x x x x x x x x)", "(f x x x x x x x x)"},
	} {
		expectForm(t, tm(c.form), obj(c.want))
	}
	// The form of a valid term may have more nodes than a valid object.
	wide, o := variable("x"), obj("x")
	for _, n := range []int{8, 8, 8, 4} {
		wide, o = app("f", slices.Repeat([]api.Term{wide}, n)...), repeat("f", n, o)
	}
	expectForm(t, wide, o)
	if !term.Valid(wide) || object.Valid(o) {
		t.Error("the test needs a valid term whose form is not valid")
	}
	expectForm(t, nestedCalls("car", 199, variable("x")), nest("car", 199, obj("x")))
	expectForm(t, constant(chain(1499)), listOf("quote", chain(1499)))
}

// TestFormOfStrangeTerms: what the description says also of terms that are not valid.
func TestFormOfStrangeTerms(t *testing.T) {
	expectForm(t, api.Term{Kind: api.Variable, Name: sym("nil")}, object.Nil())
	expectForm(t, api.Term{Kind: api.Variable}, object.Symbol(api.Symbol{}))
	expectForm(t, api.Term{Kind: api.Variable, Name: sym("x"), Args: []api.Term{{}}, Value: obj("5")}, obj("x"))
	expectForm(t, app("quote", variable("x")), obj("(quote x)"))
	expectForm(t, constant(api.Object{}), listOf("quote", api.Object{}))
	expectForm(t, constant(object.Text(string(make([]byte, 1000)))), object.Text(string(make([]byte, 1000))))
	for _, n := range []int{9, 3000, 10000} {
		expectForm(t, app("f", slices.Repeat([]api.Term{variable("x"), app("g", constant(obj("y")))}, n)...), listOf("f", slices.Repeat(objs("x (g 'y)"), n)...))
	}
	for _, n := range []int{300, 3000, 3001, 60000} {
		expectForm(t, nestedCalls("f", n, variable("x")), nest("f", n, obj("x")))
	}
	// Terms of far more nodes than memory
	x, o := tm("(f x 'y)"), obj("(f x 'y)")
	for range 100 {
		x, o = app("g", x, x), listOf("g", o, o)
	}
	expectForm(t, x, o)
	// lists of arguments that begin at the same place
	l := []api.Term{x, tm("y"), tm("'z")}
	expectForm(t, app("h", app("f", l[:2]...), app("f", l...), app("f", l[1:]...), app("f", l[:0]...)), listOf("h", listOf("f", o, obj("y")), listOf("f", o, obj("y"), obj("'z")), obj("(f y 'z)"), obj("(f)")))
}

func TestFormOfEndlessTerms(t *testing.T) {
	for _, n := range []int{1, 2, 7, 3000} {
		x := app("f", variable("x"), variable("y"))
		last := x
		for range n {
			last = app("g", last, last)
		}
		x.Args[1] = last
		if o := Form(x); o.Kind != api.KindCons || !object.Equal(o.Pair[0], obj("f")) {
			t.Error("Form of an endless term")
		}
	}
}

// expectReturns expects P12.4 for a term.
func expectReturns(t *testing.T, w []api.Entry, x api.Term) {
	t.Helper()
	if !term.Valid(x) {
		t.Fatal("the test needs a valid term")
	}
	expectTerm(t, w, nil, Form(x), x)
}

func TestTermOfForm(t *testing.T) {
	w := base()
	for _, s := range []string{"x", "a::x", "list", "quote", "let", "'nil", "'t", "'5", "'\"s\"", "'x", "'(quote x)", "'(none)", "'(a . b)", "(five)", "(car 'x)", "(if x 'y '(z))", "(g (pick (id x)))", "(a::list (a::let same))", "(cons (quote let) let)", "(eight x y z '1 '2 '3 t nil)"} {
		expectReturns(t, w, tm(s))
	}
	expectReturns(t, w, nestedCalls("car", api.MaxDepth-1, constant(obj("x"))))
	expectReturns(t, w, app("cons", constant(chain(749)), constant(chain(749))))
	wide := variable("x")
	for range 3 {
		wide = app("eight", slices.Repeat([]api.Term{wide}, 8)...)
	}
	expectReturns(t, w, wide)
	expectReturns(t, w, app("three", wide, app("three", wide, wide, nestedCalls("id", 60, wide)), wide))
}
