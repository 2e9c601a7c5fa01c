package term

import (
	"reflect"
	"slices"
	"strings"
	"testing"

	"lispprover/api"
	"lispprover/object"
)

// P8.5

func expectQuote(t *testing.T, x api.Term, want string) {
	t.Helper()
	if got := Quote(x); !reflect.DeepEqual(got, obj(want)) {
		t.Errorf("Quote(%s): %s, want %s", short(x), objectText(got, 9), want)
	}
}

func expectUnquote(t *testing.T, o api.Object, want api.Term) {
	t.Helper()
	got, is := Unquote(o)
	expectFound(t, "Unquote of "+objectText(o, 6), got, is, want)
}

func expectNoTerm(t *testing.T, o api.Object) {
	t.Helper()
	got, is := Unquote(o)
	expectNone(t, "Unquote of "+objectText(o, 6), got, is)
}

func TestQuote(t *testing.T) {
	for s, want := range map[string]string{
		"x": "x", "a::x": "a::x", "'1": "(quote 1)", "'nil": "(quote nil)", "'t": "(quote t)", "'x": "(quote x)", "'(f x)": "(quote (f x))", "'(quote x)": "(quote (quote x))", "\"s\"": "(quote \"s\")",
		"(f)": "(f)", "(a::f x)": "(a::f x)", "(f 'x (g y) '(1 . 2))": "(f (quote x) (g y) (quote (1 . 2)))", "(f 'nil)": "(f (quote nil))", "(nil x)": "(nil x)", "(f x x x x x x x x)": "(f x x x x x x x x)",
	} {
		expectQuote(t, tm(s), want)
		expectUnquote(t, obj(want), tm(s))
		expectUnquote(t, Quote(tm(s)), tm(s))
	}
	expectQuote(t, call("quote", tm("x")), "(quote x)")
	expectQuote(t, call("quote"), "(quote)")
	expectQuote(t, call("quote", tm("'1"), tm("x")), "(quote (quote 1) x)")
	expectQuote(t, Var(sym("nil")), "nil")
}

func TestUnquoteNothing(t *testing.T) {
	for _, s := range []string{
		"nil", "t", "1", "-1/2", "\"x\"", // variables cannot be nil or t
		"(1)", "(\"f\" x)", "((f) x)", "((quote x))", "(1 . 2)", // the first element is no symbol
		"(f . x)", "(f x . y)", "(f x y . 1)", "(f . 1)", "(quote . x)", "(quote x . y)", // no proper lists
		"(quote)", "(quote x y)", "(quote x y z)", // calls of quote
		"(f nil)", "(f t)", "(f 1)", "(f \"x\")", "(f x 1/2)", "(f (quote))", "(f (quote x y))", "(f x (g y (h 1)))", "(f (g nil) x)", "(f x (1))", "(f x (g . y))", "(f ((g)))",
		"(f x x x x x x x x x)", "(f (g x x x x x x x x x))", // too many arguments
	} {
		expectNoTerm(t, obj(s))
	}
	expectUnquote(t, obj("(quote nil)"), tm("'nil"))
	expectUnquote(t, obj("(lisp::nil)"), api.Term{Kind: api.Call, Name: sym("nil")})
	expectUnquote(t, obj("(a::quote x y)"), api.Term{Kind: api.Call, Name: sym("a::quote"), Args: tms("x", "y")})
	expectUnquote(t, obj("a::nil"), api.Term{Kind: api.Variable, Name: sym("a::nil")})
	expectUnquote(t, obj("quote"), api.Term{Kind: api.Variable, Name: sym("quote")})
	expectUnquote(t, obj("(f quote)"), api.Term{Kind: api.Call, Name: sym("f"), Args: []api.Term{{Kind: api.Variable, Name: sym("quote")}}})
}

// TestUnquoteLimits: the term must be valid.
func TestUnquoteLimits(t *testing.T) {
	quoted := func(n int) api.Object {
		o := obj("x")
		for range n {
			o = object.List(obj("f"), o)
		}
		return o
	}
	expectUnquote(t, quoted(api.MaxDepth-1), nest(api.MaxDepth-1, tm("x")))
	expectNoTerm(t, quoted(api.MaxDepth))
	expectNoTerm(t, quoted(1000))
	expectNoTerm(t, quoted(60000))
	expectUnquote(t, object.List(slices.Concat([]api.Object{obj("f")}, slices.Repeat([]api.Object{obj("x")}, api.MaxParams))...), tm("(f x x x x x x x x)"))
	for _, n := range []int{api.MaxParams + 1, 100, 100000} {
		expectNoTerm(t, object.List(slices.Concat([]api.Object{obj("f")}, slices.Repeat([]api.Object{obj("x")}, n))...))
	}
}

// TestUnquoteObjectsBeyondTheLimit: an object with too many nodes represents a term, too, if that is valid.
func TestUnquoteObjectsBeyondTheLimit(t *testing.T) {
	most := api.Term{Kind: api.Constant, Value: chain(1499)} // 2999 nodes
	expectUnquote(t, object.List(obj("quote"), chain(1499)), most)
	expectUnquote(t, Quote(call("f", most)), call("f", most))
	expectNoTerm(t, Quote(call("f", most, tm("x"))))
	expectNoTerm(t, object.List(obj("quote"), chain(1500)))
	expectUnquote(t, Quote(bushy(api.MaxNodes)), bushy(api.MaxNodes))
	expectNoTerm(t, Quote(bushy(api.MaxNodes+1)))
	expectNoTerm(t, Quote(bushy(10*api.MaxNodes)))
}

// TestUnquoteStrangeObjects has objects that are not valid.
func TestUnquoteStrangeObjects(t *testing.T) {
	for _, o := range []api.Object{
		{}, {Kind: 5}, {Kind: api.KindCons}, {Kind: api.KindSymbol}, {Kind: api.KindSymbol, Sym: api.Symbol{Package: "A", Name: "x"}}, {Kind: api.KindSymbol, Sym: api.Symbol{Package: "lisp", Name: strings.Repeat("x", api.MaxName+1)}},
		{Kind: api.KindCons, Pair: []api.Object{obj("f")}}, {Kind: api.KindCons, Pair: []api.Object{obj("f"), obj("nil"), obj("nil")}}, {Pair: []api.Object{obj("f"), obj("nil")}},
		circle(), bottomless(), shared(100), object.Cons(obj("f"), circle()), object.List(obj("f"), bottomless()), object.List(obj("f"), obj("x"), circle()),
		object.List(obj("quote"), circle()), object.List(obj("quote"), bottomless()), object.List(obj("quote"), shared(12)), object.List(obj("quote"), api.Object{}), object.List(obj("quote"), object.Text(strings.Repeat("a", api.MaxText+1))),
		object.List(object.Symbol(api.Symbol{Package: "A", Name: "f"})), object.List(api.Object{Kind: api.KindSymbol}, obj("x")), object.List(obj("f"), api.Object{}),
	} {
		expectNoTerm(t, o)
		expectNoTerm(t, object.List(obj("f"), o))
		expectNoTerm(t, object.List(obj("f"), obj("x"), object.List(obj("g"), o)))
	}
	f := object.List(obj("f"), obj("x"))
	f.Pair[1].Pair[0] = f // (f (f (f ..
	expectNoTerm(t, f)
	wide := obj("x")
	for range 100 {
		wide = object.List(obj("f"), wide, wide, wide)
	}
	expectNoTerm(t, wide)
}

// foreignFields are changes that leave no object valid.
func foreignFields() []func(o *api.Object) {
	return []func(o *api.Object){
		func(o *api.Object) { o.Kind += 7 },
		func(o *api.Object) { o.Pair = append(o.Pair, obj("nil")) },
		func(o *api.Object) {
			if o.Kind == api.KindNumber {
				o.Sym = sym("x")
			} else {
				o.Num = "1"
			}
		},
		func(o *api.Object) {
			if o.Kind == api.KindString {
				o.Den = "1"
			} else {
				o.Text = "x"
			}
		},
	}
}

// spoiled returns o with the change made to each of its parts, one at a time.
func spoiled(o api.Object, change func(o *api.Object)) []api.Object {
	whole := o
	change(&whole)
	l := []api.Object{whole}
	for i := range o.Pair {
		for _, part := range spoiled(o.Pair[i], change) {
			other := o
			other.Pair = slices.Clone(o.Pair)
			other.Pair[i] = part
			l = append(l, other)
		}
	}
	return l
}

// TestUnquoteForeignFields: an object with a field that it should not have represents nothing.
func TestUnquoteForeignFields(t *testing.T) {
	for _, s := range []string{"x", "(f)", "(quote (1 . x))", "(f x (g (quote \"a\") (h)))"} {
		expectUnquote(t, obj(s), tm(s))
		for _, change := range foreignFields() {
			for _, o := range spoiled(obj(s), change) {
				expectNoTerm(t, o)
			}
		}
	}
}

// TestQuoteBeyondTheLimits: the result may exceed the limits, and so may the term.
func TestQuoteBeyondTheLimits(t *testing.T) {
	most := api.Term{Kind: api.Constant, Value: chain(1499)}
	if got := Quote(most); !reflect.DeepEqual(got, object.List(obj("quote"), chain(1499))) || object.Valid(got) {
		t.Errorf("Quote(%s): %s", short(most), objectText(got, 5))
	}
	want := obj("x")
	for range 100 {
		want = object.List(obj("d"), want, want)
	}
	if got := Quote(double(100, tm("x"))); !object.Equal(got, want) {
		t.Errorf("Quote of a term with far more nodes than memory: %s", objectText(got, 5))
	}
	if got := Quote(call("f", double(12, tm("x")), tm("(g y)"))); !object.Equal(got, object.List(obj("f"), Quote(double(12, tm("x"))), obj("(g y)"))) {
		t.Errorf("Quote of a large term: %s", objectText(got, 5))
	}
}
