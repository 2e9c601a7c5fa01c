package world

import (
	"testing"

	"lispprover/api"
	"lispprover/primitive"
	"lispprover/term"
)

func TestKnown(t *testing.T) {
	w := base()
	expectValid(t, w)
	for _, c := range []struct {
		term string
		want api.Errno
	}{
		{"x", api.OK}, {"unknown", api.OK}, {"'(unknown x)", api.OK}, {"nil", api.OK}, {"1", api.OK},
		{"(id x)", api.OK}, {"(cons (odd x) (h '1 (pick (g y))))", api.OK}, {"(st-put x (st-get y))", api.OK}, {"(if x y z)", api.OK},
		{"(f x)", api.ErrFunction}, {"(a::id x)", api.ErrFunction}, {"(a::car x)", api.ErrFunction}, {"(mac x)", api.ErrFunction}, {"(cap)", api.ErrFunction}, {"(st)", api.ErrFunction}, {"(th)", api.ErrFunction}, {"(nil)", api.ErrFunction}, {"(t)", api.ErrFunction}, {"(list)", api.ErrFunction},
		{"(id)", api.ErrArity}, {"(id x y)", api.ErrArity}, {"(h x)", api.ErrArity}, {"(pick)", api.ErrArity}, {"(st-put x)", api.ErrArity}, {"(car)", api.ErrArity}, {"(cons x)", api.ErrArity}, {"(cons x y z)", api.ErrArity}, {"(if x y)", api.ErrArity},
		// A term comes before its arguments.
		{"(id (f x) y)", api.ErrArity}, {"(f (id))", api.ErrFunction}, {"(id (f x))", api.ErrFunction}, {"(id (id))", api.ErrArity}, {"(car (cdr (cons x (id (f)))))", api.ErrFunction},
		// The arguments come from left to right, each with all that it contains.
		{"(cons (f) (id))", api.ErrFunction}, {"(cons (id) (f))", api.ErrArity}, {"(cons (id (id (id))) (f))", api.ErrArity}, {"(cons (id (id (f))) (id))", api.ErrFunction}, {"(if x (id x) (f))", api.ErrFunction}, {"(if x (f) (id))", api.ErrFunction}, {"(cons x (cons (car x x) (f)))", api.ErrArity},
	} {
		expectErr(t, "Known of "+c.term, Known(w, tm(c.term)), c.want)
	}
	expectErr(t, "a call of quote", Known(w, call("quote", tm("x"))), api.ErrFunction)
	expectErr(t, "a call of no symbol", Known(w, api.Term{Kind: api.Call}), api.ErrFunction)
	expectErr(t, "a variable without a name", Known(w, call("id", api.Term{Kind: api.Variable})), api.OK)
	expectErr(t, "a world without f", Known(nil, tm("(f x)")), api.ErrFunction)
	for _, f := range primitive.Names() {
		n, _ := primitive.Arity(f)
		args := tms("x", "y", "z", "u")
		expectErr(t, "a primitive", Known(nil, term.App(f, args[:n]...)), api.OK)
		expectErr(t, "a primitive with one argument more", Known(nil, term.App(f, args[:n+1]...)), api.ErrArity)
		expectErr(t, "a primitive with one argument less", Known(nil, term.App(f, args[:n-1]...)), api.ErrArity)
	}
}

// TestKnownInStrangeWorlds: the first function with a name counts, and a primitive before it.
func TestKnownInStrangeWorlds(t *testing.T) {
	w := []api.Entry{functions(defined("f x", "x"), defined("f x y", "x")), defun("f x y z", "x"), defun("car x y", "x"), defun("k", "(missing)"), functions(api.Function{}, defined("nil x", "x"))}
	for s, want := range map[string]api.Errno{
		"(f x)": api.OK, "(f x y)": api.ErrArity, "(f x y z)": api.ErrArity, "(car x)": api.OK, "(car x y)": api.ErrArity, "(k)": api.OK, "(nil x)": api.OK, "(nil)": api.ErrArity,
	} {
		expectErr(t, "Known of "+s, Known(w, tm(s)), want)
	}
	expectErr(t, "a call of no symbol", Known(w, api.Term{Kind: api.Call}), api.OK)
}

// TestKnownOfLargeTerms has terms with more nodes than valid ones; the first error is where it would be in small ones.
func TestKnownOfLargeTerms(t *testing.T) {
	w := []api.Entry{defun("f x", "x"), defun("d x y", "x"), defun("e x y", "x")}
	for _, x := range []api.Term{nest("f", 1<<16-1, tm("x")), double("d", 100, tm("x")), endless("e", 1), endless("e", 5000), branching("d", 2), call("d", double("d", 100, endless("e", 3)), branching("e", 2))} {
		expectErr(t, "a large term", Known(w, x), api.OK)
		expectErr(t, "in nothing", Known(nil, x), api.ErrFunction)
		expectErr(t, "an error after a large term", Known(w, call("d", x, tm("(f)"))), api.ErrArity)
		expectErr(t, "another error after a large term", Known(w, call("d", x, tm("(g)"))), api.ErrFunction)
		expectErr(t, "errors around a large term", Known(w, call("d", tm("(g)"), call("d", x, tm("(f)")))), api.ErrFunction)
		expectErr(t, "errors after a large term", Known(w, call("d", x, call("d", tm("(f)"), tm("(g)")))), api.ErrArity)
	}
	expectErr(t, "the end of a nest", Known(w, nest("f", 1<<16-1, tm("(f)"))), api.ErrArity)
	expectErr(t, "the ends of a tree", Known(w, double("d", 100, tm("(g)"))), api.ErrFunction)
	expectErr(t, "a wrong number of ends", Known(w, branching("d", 3)), api.ErrArity)
}

// TestKnownOfStrangers: a term whose Kind is not Call has no arguments.
func TestKnownOfStrangers(t *testing.T) {
	for _, kind := range []int{-1, 0, api.Variable, api.Constant, 4} {
		x := api.Term{Kind: kind, Name: sym("f"), Args: tms("(f x)")}
		expectErr(t, "a term that is no call", Known(nil, x), api.OK)
		expectErr(t, "within a call", Known(nil, call("car", x)), api.OK)
	}
}

func TestClosed(t *testing.T) {
	for _, c := range []struct {
		term, params string
		want         bool
	}{
		{"x", "x", true}, {"x", "", false}, {"x", "y", false}, {"x", "a::x", false}, {"a::x", "x", false}, {"x", "y x", true}, {"x", "x x", true},
		{"1", "", true}, {"'x", "", true}, {"'(f x)", "y", true}, {"(f)", "", true}, {"(f '1 (g \"x\"))", "", true},
		{"(f x y)", "x y", true}, {"(f x y)", "y z x", true}, {"(f x y)", "x", false}, {"(f x y)", "y", false}, {"(f (g (g y)) x)", "x", false}, {"(f x (g (g y)))", "x", false}, {"(f x (g (g y)))", "x y", true}, {"(f x x)", "x", true}, {"(x y)", "y", true}, {"(x y)", "x", false},
	} {
		expectBool(t, "Closed of "+c.term+" over "+c.params, Closed(tm(c.term), syms(c.params)), c.want)
	}
	strange := call("f", api.Term{Kind: api.Variable}, api.Term{Kind: api.Variable, Name: sym("nil")})
	expectBool(t, "strange variables", Closed(strange, []api.Symbol{{}, sym("nil")}), true)
	expectBool(t, "one strange variable", Closed(strange, []api.Symbol{{}}), false)
	expectBool(t, "the other strange variable", Closed(strange, syms("nil x")), false)
	for _, x := range []api.Term{nest("f", 1<<16-1, tm("x")), double("d", 100, tm("x")), call("d", endless("e", 3), tm("x"))} {
		expectBool(t, "a large term", Closed(x, syms("y x")), true)
		expectBool(t, "a large term over others", Closed(x, syms("y")), false)
	}
}

func TestDepends(t *testing.T) {
	w := append(base(), defun("three x", "(cons (two x) '(four x))"), functions(defined("two x", "(three (one x))")), defun("one x", "(pick x)"))
	w = append(w, functions(fun(api.Defined, "guarded x", "(even x)", "(car x)", "(id x)")))
	for _, c := range []struct {
		terms []string
		want  string
	}{
		{nil, ""}, {[]string{"x"}, ""}, {[]string{"'(id x)"}, ""}, {[]string{"(cons x (car y))"}, ""}, {[]string{"(if x y z)"}, ""},
		{[]string{"(id x)"}, "id"}, {[]string{"(unknown (id x))"}, "id unknown"}, {[]string{"(a::id x)"}, "a::id"}, {[]string{"(id (a::id x))"}, "a::id id"}, {[]string{"(b::a (a::b x) (a::a))"}, "a::a b::a a::b"},
		{[]string{"(even x)"}, "even odd"}, {[]string{"(odd x)"}, "even odd"}, {[]string{"(odd (odd x))", "(even '1)"}, "even odd"},
		{[]string{"(g x)"}, "g"}, {[]string{"(pick x)"}, "pick"}, {[]string{"(st-put x y)"}, "id st-put"}, {[]string{"(st-get y)"}, "st-get"}, {[]string{"(mac x)"}, "mac"}, {[]string{"(th)"}, "th"}, {[]string{"(quote2 (nil))"}, "nil quote2"},
		{[]string{"(cons (h x y) (id x))", "y", "(odd x)"}, "even h id odd"}, {[]string{"(three x)"}, "one pick three two"}, {[]string{"(two x)"}, "one pick three two"}, {[]string{"(one x)"}, "one pick"},
		{[]string{"(guarded x)"}, "guarded"},
	} {
		expectSyms(t, "Depends", Depends(w, tms(c.terms...)...), syms(c.want))
	}
	expectSyms(t, "in nothing", Depends(nil, tms("(id (even (car x)))")...), syms("even id"))
}

// TestDependsInStrangeWorlds: the body of the first function with a name counts, whatever its class is; a primitive depends on nothing.
func TestDependsInStrangeWorlds(t *testing.T) {
	w := []api.Entry{functions(defined("f x", "(g x)"), defined("f x", "(h x)")), defun("f x", "(i x)"), functions(fun(api.Constrained, "g x", "t", "(j x)", ""), fun(0, "j", "t", "(k)", "")), defun("car x", "(l x)"), {Kind: api.EntryLabel, Functions: []api.Function{defined("k", "(m)")}}}
	expectSyms(t, "Depends", Depends(w, tm("(f (car x))")), syms("f g j k"))
	expectSyms(t, "the zero symbol", Depends(w, api.Term{Kind: api.Call}, tm("(k)")), append([]api.Symbol{{}}, sym("k")))
}

func TestExecutable(t *testing.T) {
	w := append(base(), defun("by-id x", "(id (even x))"), defun("by-g x", "(if x (g x) x)"), defun("by-by-g x", "(id (by-g x))"), defun("by-pick x", "(pick x)"), defun("by-st x", "(st-put x x)"))
	w = append(w, functions(defined("turn x", "(turned x)"), defined("turned x", "(if x (h x x) (turn x))")), functions(fun(api.Defined, "guarded x", "(g x)", "x", "(pick x)")), defun("nothing", "'(g x)"))
	expectValid(t, w)
	for _, name := range append(syms("id even odd st-get st-put by-id by-st guarded nothing"), primitive.Names()...) {
		expectBool(t, "Executable of "+name.Name, Executable(w, name), true)
	}
	for _, name := range syms("g h pick by-g by-by-g by-pick turn turned mac cap st th here unknown a::id a::car quote nil t") {
		expectBool(t, "Executable of "+name.Name, Executable(w, name), false)
	}
	expectBool(t, "a primitive in nothing", Executable(nil, sym("cons")), true)
	expectBool(t, "a function in nothing", Executable(nil, sym("id")), false)
	strange := []api.Entry{defun("f x", "(unknown x)"), functions(fun(0, "g x", "t", "x", ""), fun(4, "h x", "t", "x", ""), fun(api.Constrained, "i x", "t", "x", "")), defun("g x", "x")}
	for _, name := range syms("f g h i unknown") {
		expectBool(t, "Executable of "+name.Name, Executable(strange, name), false)
	}
}
