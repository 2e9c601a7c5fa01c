package translate

import (
	"slices"
	"strings"
	"testing"

	"lispprover/api"
	"lispprover/object"
	"lispprover/term"
)

// P12.2: the limits

// letForm returns (let ((v dropped)) x): its term is that of x.
func letForm(dropped, x api.Object) api.Object {
	return object.List(obj("let"), object.List(object.List(obj("v"), dropped)), x)
}

// expectLeft expects that a form is translated after n expansions, but not after n + 1.
func expectLeft(t *testing.T, form string, n int, want string) {
	t.Helper()
	expectTerm(t, base(), nil, letForm(spend(n), obj(form)), tm(want))
	expectTermError(t, base(), nil, letForm(spend(n+1), obj(form)), api.ErrLimit)
}

func TestMaxExpand(t *testing.T) {
	for _, c := range []struct {
		form string
		cost int
		want string
	}{
		{"(list)", 1, "'nil"}, {"(list 1 2)", 3, "(cons '1 (cons '2 'nil))"}, {"(list* 1 2)", 2, "(cons '1 '2)"}, {"(and)", 1, "'t"}, {"(and x y)", 2, "(if x y 'nil)"}, {"(or x y)", 2, "(if x x y)"}, {"(cond (x y))", 2, "(if x y 'nil)"}, {"(+ x y)", 1, "(binary-+ x y)"}, {"(+ x y z)", 2, "(binary-+ x (binary-+ y z))"}, {"(* x)", 1, "(binary-* '1 x)"}, {"(- x y)", 1, "(binary-+ x (unary-- y))"}, {"(/ x)", 1, "(unary-/ x)"},
		{"(<= x y)", 1, "(not (< y x))"}, {"(> x y)", 1, "(< y x)"}, {"(>= x y)", 1, "(not (< x y))"}, {"(append x y)", 2, "(binary-append x y)"}, {"(same x)", 1, "x"}, {"(same (same x))", 2, "x"}, {"(id (same (id (same x))))", 2, "(id (id x))"}, {"(all (same x))", 1, "'((same x))"}, {"(third (none) (list) 5)", 1, "'5"},
		// What occurs twice in an expansion is expanded twice.
		{"(dup (same x))", 3, "(cons x x)"}, {"(or (same x) (same y))", 5, "(if x x y)"}, {"(dup (dup (same x)))", 7, "(cons (cons x x) (cons x x))"}, {"(cons (same x) (same x))", 2, "(cons x x)"},
		// let and let*
		{"(let ((x 1) (y 2)) (cons x y))", 0, "(cons '1 '2)"}, {"(let ((x (same 1))) (cons x x))", 1, "(cons '1 '1)"}, {"(let ((x (same 1))) 5)", 1, "'5"}, {"(let* () 5)", 0, "'5"}, {"(let* ((x 1)) x)", 1, "'1"}, {"(let* ((x 1) (y x) (z y)) z)", 3, "'1"}, {"(let* ((x (same 1)) (y (same x))) (same y))", 5, "'1"}, {"(dup (let* ((x 1) (y x)) y))", 5, "(cons '1 '1)"}, {"'(same x)", 0, "'(same x)"}, {"x", 0, "x"},
	} {
		if c.cost > 0 {
			expectLeft(t, c.form, api.MaxExpand-c.cost, c.want)
		} else {
			expectTerm(t, base(), nil, letForm(spend(api.MaxExpand), obj(c.form)), tm(c.want))
		}
	}
}

func TestMaxExpandOfOneKind(t *testing.T) {
	one := object.Int(1)
	drop := func(form api.Object) api.Object { return letForm(form, obj("x")) }
	for name, n := range map[string]int{"list": 499, "and": 500, "or": 500, "list*": 500, "append": 500, "+": 501, "*": 501} {
		expectTerm(t, base(), nil, drop(repeat(name, n, one)), variable("x"))
		expectTermError(t, base(), nil, drop(repeat(name, n+1, one)), api.ErrLimit)
	}
	expectTerm(t, base(), nil, drop(repeat("cond", 499, obj("(x y)"))), variable("x"))
	expectTermError(t, base(), nil, drop(repeat("cond", 500, obj("(x y)"))), api.ErrLimit)
	expectTerm(t, base(), nil, nest("same", 500, obj("x")), variable("x"))
	expectTermError(t, base(), nil, nest("same", 501, obj("x")), api.ErrLimit)
	expectTerm(t, nil, nil, nest("list*", 500, obj("x")), variable("x"))
	expectTermError(t, nil, nil, nest("list*", 501, obj("x")), api.ErrLimit)
	letStar := func(n int) api.Object {
		return listOf("let*", object.List(slices.Repeat([]api.Object{obj("(v v)")}, n)...), obj("v"))
	}
	expectTerm(t, nil, nil, letStar(500), variable("v"))
	expectTermError(t, nil, nil, letStar(501), api.ErrLimit)
	// A form without an end
	expectTermError(t, base(), nil, obj("(again)"), api.ErrLimit)
	expectTermError(t, base(), nil, obj("(more x)"), api.ErrLimit)
	// The first 8 levels have 255 calls, 9 have 511.
	expectTerm(t, base(), nil, drop(nest("dup", 8, obj("x"))), variable("x"))
	expectTermError(t, base(), nil, drop(nest("dup", 9, obj("x"))), api.ErrLimit)
}

// TestMaxExpandAmongErrors: the error is found before the expansion that is one too many, and in the order of the other errors.
func TestMaxExpandAmongErrors(t *testing.T) {
	last, over := spend(api.MaxExpand), spend(api.MaxExpand+1)
	for _, c := range []struct {
		form api.Object
		want api.Errno
	}{
		{listOf("cons", over, obj("(none)")), api.ErrLimit}, {listOf("cons", obj("(none)"), over), api.ErrFunction}, {listOf("cons", last, obj("(none)")), api.ErrFunction}, {listOf("none", over), api.ErrLimit}, {listOf("none", last), api.ErrFunction}, {listOf("car", last, obj("x")), api.ErrArity}, {listOf("car", over, obj("x")), api.ErrLimit},
		// The expansion would have an error.
		{listOf("cons", last, obj("(list*)")), api.ErrLimit}, {listOf("cons", spend(499), obj("(list*)")), api.ErrForm}, {listOf("cons", last, obj("(same)")), api.ErrLimit}, {listOf("cons", spend(499), obj("(same)")), api.ErrArity}, {listOf("cons", last, obj("(spin)")), api.ErrLimit}, {listOf("cons", spend(499), obj("(spin)")), api.ErrSteps},
		{listOf("cons", last, obj("(same . x)")), api.ErrForm}, {listOf("cons", last, obj("(let* ((x 1) (y)) x)")), api.ErrForm}, {listOf("cons", last, obj("(let* ((nil (none))) x)")), api.ErrLimit}, {listOf("cons", spend(499), obj("(let* ((nil (none))) x)")), api.ErrName}, {listOf("cons", spend(499), obj("(let* ((x (none)) (y 1)) x)")), api.ErrFunction}, {listOf("cons", spend(499), obj("(let* ((x 1) (y (none))) x)")), api.ErrLimit},
		{listOf("cons", spend(498), obj("(or x (none) (car))")), api.ErrFunction}, {listOf("cons", spend(498), obj("(or x y (none))")), api.ErrLimit},
		// What is dropped or repeated counts.
		{listOf("or", spend(250), obj("(none)")), api.ErrLimit}, {listOf("or", spend(249), obj("(none)")), api.ErrFunction}, {letForm(obj("(none)"), over), api.ErrFunction}, {letForm(over, obj("(none)")), api.ErrLimit},
	} {
		expectTermError(t, base(), nil, c.form, c.want)
	}
	// What is not valid is found last.
	big := nest("car", 300, obj("x"))
	expectTermError(t, base(), nil, listOf("cons", big, obj("(none)")), api.ErrFunction)
	expectTermError(t, base(), nil, listOf("none", big), api.ErrFunction)
	expectTermError(t, base(), nil, listOf("car", big, big), api.ErrArity)
	expectTermError(t, base(), nil, letForm(big, obj("(5)")), api.ErrForm)
	expectTermError(t, base(), nil, object.List(obj("let"), object.List(object.List(obj("x"), big)), obj("(cons x (spin))")), api.ErrSteps)
}

func TestMaxDepth(t *testing.T) {
	expectTerm(t, nil, nil, nest("car", api.MaxDepth-1, obj("x")), nestedCalls("car", api.MaxDepth-1, variable("x")))
	expectTermError(t, nil, nil, nest("car", api.MaxDepth, obj("x")), api.ErrLimit)
	expectTerm(t, nil, nil, repeat("list", api.MaxDepth-1, obj("x")), mustTerm(repeat("list*", api.MaxDepth-1, obj("x"), object.Nil())))
	expectTermError(t, nil, nil, repeat("list", api.MaxDepth, obj("x")), api.ErrLimit)
	// (let ((x (car .. x))) (car .. x)) has the sum of the depths.
	within := func(a, b int) api.Object {
		return object.List(obj("let"), object.List(object.List(obj("x"), nest("car", a, obj("x")))), nest("car", b, obj("x")))
	}
	for _, a := range []int{0, 1, 50, 99, 100, 198, 199} {
		expectTerm(t, nil, nil, within(a, api.MaxDepth-1-a), nestedCalls("car", api.MaxDepth-1, variable("x")))
		expectTermError(t, nil, nil, within(a, api.MaxDepth-a), api.ErrLimit)
	}
	// What is dropped has no limit.
	for _, n := range []int{199, 200, 201, 1000, 1480, 5000} {
		expectTerm(t, nil, nil, letForm(nest("car", n, obj("x")), obj("y")), variable("y"))
		expectTerm(t, nil, nil, letForm(within(n, n), obj("(car y)")), app("car", variable("y")))
		expectTerm(t, nil, nil, letForm(obj("x"), letForm(letForm(nest("car", n, obj("v")), obj("(cons v v)")), obj("w"))), variable("w"))
		expectTermError(t, nil, nil, letForm(nest("car", n+1, obj("x")), obj("v")), api.ErrLimit)
	}
}

// mustTerm returns the term of a form that has one.
func mustTerm(form api.Object) api.Term {
	x, err := Term(nil, nil, form)
	if err != api.OK {
		panic("no term")
	}
	return x
}

func TestMaxNodes(t *testing.T) {
	// A constant of n conses has 2n + 1 nodes, and a call one more than its arguments.
	big := func(n int) api.Object { return listOf("quote", chain(n)) }
	expectTerm(t, nil, nil, big(1499), constant(chain(1499)))
	expectTermError(t, nil, nil, big(1500), api.ErrLimit)
	expectTerm(t, nil, nil, listOf("car", big(1499)), app("car", constant(chain(1499))))
	expectTermError(t, nil, nil, object.List(obj("car"), listOf("car", big(1499))), api.ErrLimit)
	expectTerm(t, nil, nil, listOf("cons", big(749), big(749)), app("cons", constant(chain(749)), constant(chain(749))))
	expectTermError(t, nil, nil, listOf("cons", big(749), big(750)), api.ErrLimit)
	doubles := func(n int, x api.Object) api.Object {
		for range n {
			x = object.List(obj("let"), object.List(object.List(obj("x"), x)), obj("(cons x x)"))
		}
		return x
	}
	// 2^n (m + 1) - 1 nodes for m of x
	expectTerm(t, nil, nil, doubles(2, big(374)), app("cons", app("cons", constant(chain(374)), constant(chain(374))), app("cons", constant(chain(374)), constant(chain(374)))))
	expectTermError(t, nil, nil, doubles(2, big(375)), api.ErrLimit)
	expectTermError(t, nil, nil, doubles(11, obj("x")), api.ErrLimit)
	for _, n := range []int{11, 12, 60, 190, 400} {
		expectTermError(t, nil, nil, doubles(n, obj("x")), api.ErrLimit)
		expectTerm(t, nil, nil, letForm(doubles(n, obj("x")), obj("x")), variable("x"))
		expectTerm(t, nil, nil, listOf("car", letForm(doubles(n, big(1400)), obj("x"))), app("car", variable("x")))
		expectTermError(t, nil, nil, object.List(obj("cons"), doubles(n, obj("x")), obj("(none)")), api.ErrFunction)
	}
	x, err := Term(nil, nil, doubles(10, obj("x")))
	if err != api.OK || term.Nodes(x) != 2047 || term.Depth(x) != 11 {
		t.Error("a term of 2047 nodes")
	}
}

// TestTermsThatAreNotValid: also in other ways than by their size.
func TestTermsThatAreNotValid(t *testing.T) {
	long := strings.Repeat("x", api.MaxName+1)
	nine := fun("nine p1 p2 p3 p4 p5 p6 p7 p8 p9")
	for _, o := range []api.Object{
		object.Symbol(api.Symbol{Package: "lisp", Name: long}), object.Symbol(api.Symbol{Package: "A", Name: "x"}), object.Symbol(api.Symbol{Package: "lisp"}), object.Symbol(api.Symbol{}), object.Text(strings.Repeat("x", api.MaxText+1)), {Kind: api.KindNumber}, {Kind: api.KindNumber, Num: "2", Den: "4"}, {Kind: api.KindNumber, Num: "x", Den: "1"}, {Kind: api.KindNumber, Num: strings.Repeat("9", 101), Den: "1"},
		listOf("quote", chain(1500)), listOf("quote", circle()), listOf("quote", api.Object{}), listOf("quote", object.Text(strings.Repeat("x", 300))), repeat("nine", 9, obj("x")),
	} {
		expectTermError(t, base(), []api.Function{nine}, o, api.ErrLimit)
		expectTermError(t, base(), []api.Function{nine}, listOf("id", o), api.ErrLimit)
		expectTermError(t, base(), []api.Function{nine}, listOf("cons", o, obj("(none)")), api.ErrFunction)
		expectTermError(t, base(), []api.Function{nine}, listOf("car", o, o), api.ErrArity)
		expectTermError(t, base(), []api.Function{nine}, letForm(o, obj("v")), api.ErrLimit)
		expectTerm(t, base(), []api.Function{nine}, letForm(o, obj("w")), variable("w"))
		expectTerm(t, base(), []api.Function{nine}, object.List(obj("all"), obj("x")), constant(obj("(x)")))
	}
	expectTermError(t, base(), []api.Function{nine}, repeat("nine", 8, obj("x")), api.ErrArity)
	bad := api.Symbol{Package: "lisp", Name: long}
	expectTermError(t, nil, []api.Function{{Name: bad}}, object.List(object.Symbol(bad)), api.ErrLimit)
	expectTermError(t, nil, nil, object.List(object.Symbol(bad)), api.ErrFunction)
	expectTerm(t, nil, nil, object.List(obj("let"), object.List(object.List(object.Symbol(bad), obj("x"))), object.Symbol(bad)), variable("x"))
}
