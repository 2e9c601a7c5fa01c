package translate

import (
	"math"
	"reflect"
	"runtime/debug"
	"slices"
	"strings"
	"testing"

	"lispprover/api"
	"lispprover/object"
)

// Arguments that are not valid, and the general rules P0.1, P0.3 and P0.4

// strangeForms are forms that are malformed, endless, or far larger than their memory.
func strangeForms() []api.Object {
	symbol := object.Symbol(sym("car"))
	symbol.Pair, symbol.Text = objs("1 2"), "x"
	l := []api.Object{
		{}, {Kind: -1}, {Kind: 5}, {Kind: math.MaxInt, Sym: sym("x")}, {Kind: api.KindCons}, {Kind: api.KindCons, Pair: objs("car")}, {Kind: api.KindCons, Pair: objs("car x nil")}, {Kind: api.KindNumber}, {Kind: api.KindString, Pair: objs("car nil")}, {Kind: api.KindSymbol}, {Kind: api.KindSymbol, Sym: sym("nil"), Text: "x"}, symbol, object.Cons(symbol, symbol), object.Cons(symbol, object.Nil()),
		circle(), listOf("quote", circle()), listOf("list", circle(), circle()), listOf("let", circle(), circle()), listOf("let*", circle(), circle()), listOf("let", object.List(circle()), obj("x")), listOf("cond", circle()), listOf("all", circle()), listOf("dup", circle()), listOf("len", circle()), listOf("count-of", obj("x"), circle()), within("(car . **)"), within("(and x . **)"), within("(same . **)"), within("(let ((x . **)) y)"), within("(let ** x)"), within("(let* ** x)"), within("(let ((x 1) . **) x)"),
		chain(4000), repeat("and", 4000, obj("x")), repeat("all", 4000, obj("x")), repeat("car", 4000, obj("(list)")), nest("car", 4000, obj("x")), nest("list", 4000, obj("x")), nest("quote", 4000, obj("x")), object.Text(strings.Repeat("x", 1000)),
		object.List(object.Symbol(api.Symbol{})), object.List(object.Symbol(api.Symbol{}), obj("x")), object.List(api.Object{}, obj("x")), listOf("car", api.Object{}), listOf("let", object.List(object.List(api.Object{}, obj("x"))), obj("y")), listOf("let", object.List(object.List(object.Symbol(api.Symbol{}), api.Object{})), obj("y")),
	}
	for _, s := range []string{"(cons ** (none))", "(cons 1 **)", "(car **)", "(let ((x **)) x)", "(let ((x 1)) **)", "(let ((x **)) **)", "(let* ((x **)) x)", "(let* ((x 1) (y **)) **)", "(list **)", "(or ** x)", "(and x **)", "(cond (** x))", "(cond ** x)", "(same **)", "(dup **)", "(all **)", "(quote **)", "(** x)", "(let ((** 1)) x)", "(swap ** **)", "(cons ** **)", "(none **)", "(+ 1 ** **)", "(let () **)", "(more **)", "(eight ** ** ** ** ** ** ** **)", "(let ((x (cons ** x))) (cons x **))", "(let* () **)"} {
		l = append(l, within(s), double(s, 3, within("(cons x **)")), double(s, 40, obj("x")), double(s, 100, obj("(none)")), double(s, 64, obj("(5)")), double(s, 300, obj("(list)")))
	}
	return l
}

// strangeWorlds have macros and functions whose parts are strange.
func strangeWorlds() [][]api.Entry {
	worlds := [][]api.Entry{nil, base(), make([]api.Entry, 3), {{Kind: api.EntryMacro}, {Kind: api.EntryFunctions, Functions: make([]api.Function, 2)}}}
	for i, o := range strangeForms() {
		body := constant(o)
		if i%3 == 0 {
			body = app("cons", constant(obj("cons")), app("cons", variable("x"), app("cons", constant(o), constant(object.Nil()))))
		}
		m := api.Entry{Kind: api.EntryMacro, Macro: api.Macro{Name: syms("same dup more all car")[i%5], Params: syms("x y")[:i%3], Rest: i%2 == 0, Body: body}}
		n := api.Entry{Kind: api.EntryMacro, Macro: api.Macro{Name: sym("none"), Params: slices.Repeat(syms("x"), i%11), Rest: i%3 == 0, Body: []api.Term{{}, {Kind: 9}, variable("x"), app("none")}[i%4]}}
		worlds = append(worlds, []api.Entry{m, n, {Kind: api.EntryMacro}})
	}
	return worlds
}

func TestStrangeArguments(t *testing.T) {
	forms, worlds := strangeForms(), strangeWorlds()
	extras := [][]api.Function{nil, make([]api.Function, 2), funs("x", "cons x", "eight"), {{Name: sym("wide"), Params: make([]api.Symbol, 100000)}}}
	for i, w := range worlds {
		for j, o := range forms {
			if i > 4 && (i+j)%7 > 0 {
				continue
			}
			x, err := Term(w, extras[(i+j)%len(extras)], o)
			if err != api.OK && !reflect.ValueOf(x).IsZero() {
				t.Errorf("a term beside the error %d", err)
			}
			if expansion, is, err := Expand(w, o); err != api.OK && (is || !reflect.ValueOf(expansion).IsZero()) {
				t.Errorf("an expansion beside the error %d", err)
			}
		}
	}
	if !reflect.DeepEqual(forms, strangeForms()) || !reflect.DeepEqual(worlds, strangeWorlds()) {
		t.Error("an argument was changed")
	}
}

// TestFormsThatAreNotValid: what the description says also of them.
func TestFormsThatAreNotValid(t *testing.T) {
	w := base()
	for _, o := range []api.Object{{Kind: api.KindCons}, {Kind: api.KindCons, Pair: objs("car")}, {Kind: api.KindCons, Pair: objs("car x nil")}, circle(), within("(car x . **)"), within("(same . **)"), within("(let ** x)"), within("(let ((x 1) . **) x)"), within("(let* ((x 1) . **) x)"), within("(let ((x . **)) x)")} {
		expectTermError(t, w, nil, o, api.ErrForm)
		expectTermError(t, w, nil, listOf("cons", obj("(car x)"), o), api.ErrForm)
		expectTermError(t, w, nil, listOf("cons", obj("(car)"), o), api.ErrArity)
	}
	for _, n := range []int{3000, 10000} {
		wide := func(name string) api.Object { return repeat(name, n, obj("x")) }
		for name, want := range map[string]api.Errno{"car": api.ErrArity, "none": api.ErrFunction, "and": api.ErrLimit, "list": api.ErrLimit, "+": api.ErrLimit, "-": api.ErrForm, "same": api.ErrArity, "quote": api.ErrForm, "let": api.ErrForm, "all": api.ErrLimit, "dup": api.ErrArity} {
			expectTermError(t, w, nil, wide(name), want)
		}
		expectTermError(t, w, nil, repeat("and", n, obj("(none)")), api.ErrFunction)
		expectTermError(t, w, nil, repeat("or", n, obj("x"), obj("(none)")), api.ErrLimit)
		expectTermError(t, w, nil, repeat("car", n, obj("x"), obj("(5)")), api.ErrForm)
		expectTerm(t, w, nil, letForm(wide("third"), obj("y")), variable("y"))
		expectTerm(t, w, []api.Function{{Name: sym("new"), Params: make([]api.Symbol, n)}}, letForm(wide("new"), obj("y")), variable("y"))
		pairs := slices.Repeat([]api.Object{obj("(x 1)")}, n)
		expectTermError(t, w, nil, listOf("let", object.List(pairs...), obj("x")), api.ErrDuplicate)
		expectTermError(t, w, nil, listOf("let*", object.List(pairs...), obj("x")), api.ErrLimit)
		expectExpansion(t, w, wide("third"), obj("x"))
	}
}

// TestSharedForms: a form may have far more nodes than memory. The term of an inner form may, too, if a let drops it.
func TestSharedForms(t *testing.T) {
	w := base()
	for _, s := range []string{"(cons ** **)", "(let ((x **)) **)", "(let* ((y **)) (cons ** x))", "(if ** ** **)", "(let ((x (car **))) **)", "(let ((x (cons x x))) (cons ** **))", "(cons (let ((x (car x))) **) **)"} {
		for _, n := range []int{20, 50, 100} {
			x := double(s, n, obj("(car x)"))
			expectTermError(t, w, nil, double(s, n, obj("(none)")), api.ErrFunction)
			expectTermError(t, w, nil, double(s, n, obj("(let ((nil 1)) 5)")), api.ErrName)
			if strings.Contains(s, "let*") {
				expectTermError(t, w, nil, letForm(x, obj("y")), api.ErrLimit)
				continue
			}
			expectTermError(t, w, nil, x, api.ErrLimit)
			expectTerm(t, w, nil, letForm(x, obj("y")), variable("y"))
			expectTerm(t, w, nil, letForm(double(s, n, x), obj("(id y)")), app("id", variable("y")))
			expectTermError(t, w, nil, listOf("cons", x, obj("(none)")), api.ErrFunction)
		}
	}
	// All expansions count.
	for _, s := range []string{"(or ** **)", "(dup **)", "(list **)", "(same **)", "(let* ((x **)) x)", "(cons (and) **)", "(let ((x (and))) **)"} {
		expectTermError(t, w, nil, letForm(double(s, 501, obj("x")), obj("y")), api.ErrLimit)
		expectTermError(t, w, nil, double(s, 501, obj("(none)")), api.ErrLimit)
	}
	expectTermError(t, w, nil, letForm(double("(cons ** **)", 9, obj("(same x)")), obj("y")), api.ErrLimit)
	expectTerm(t, w, nil, letForm(double("(cons ** **)", 8, obj("(same x)")), obj("y")), variable("y"))
	expectTerm(t, w, nil, double("(cons ** **)", 8, obj("(same x)")), mustTerm(double("(cons ** **)", 8, obj("x"))))
	expectTerm(t, w, nil, double("(let ((x **)) **)", 7, obj("(car x)")), nestedCalls("car", 128, variable("x")))
}

// TestEndlessForms: a form that contains itself has no term.
func TestEndlessForms(t *testing.T) {
	w := base()
	for _, c := range []struct {
		form string
		want api.Errno
	}{
		{"(same **)", api.ErrLimit}, {"(list **)", api.ErrLimit}, {"(list 1 **)", api.ErrLimit}, {"(or x **)", api.ErrLimit}, {"(cond (** x))", api.ErrLimit}, {"(let* ((x **)) 5)", api.ErrLimit}, {"(let* ((x 1)) **)", api.ErrLimit}, {"(cons (same **) (none))", api.ErrLimit}, {"(let ((x (and))) **)", api.ErrLimit}, {"(cons (and) **)", api.ErrLimit},
		{"(cons (none) **)", api.ErrFunction}, {"(let ((5 **)) x)", api.ErrForm}, {"(let ((x 1) (x **)) x)", api.ErrDuplicate}, {"(list (none) **)", api.ErrFunction}, {"(quote ** x)", api.ErrForm}, {"(same ** 1)", api.ErrArity}, {"(** 1)", api.ErrForm}, {"(- 1 2 **)", api.ErrForm},
	} {
		expectTermError(t, w, nil, within(c.form), c.want)
		expectTermError(t, w, nil, letForm(within(c.form), obj("(5)")), c.want)
	}
	for _, s := range []string{"(car **)", "(cons ** (none))", "(let ((x 1)) **)", "(let ((x **)) (none))", "(let () **)", "(eight ** ** ** ** ** ** ** **)", "(none **)"} {
		if x, err := Term(w, nil, within(s)); err == api.OK || !reflect.ValueOf(x).IsZero() {
			t.Errorf("a term of the endless form %s", s)
		}
	}
	for _, s := range []string{"(same **)", "(or ** **)", "(quote **)", "(car **)", "(let ((x **)) x)"} {
		form := within(s)
		o, is, err := Expand(nil, form)
		if err != api.OK || is != (s == "(or ** **)") || o.Kind != api.KindCons {
			t.Errorf("Expand of %s: %v, %d", s, is, err)
		}
	}
	expectExpandError(t, w, within("(all **)"), api.ErrLimit)
	expectTerm(t, w, nil, letForm(within("(quote **)"), obj("y")), variable("y"))
	expectTerm(t, w, nil, letForm(within("(third ** 1 2)"), obj("y")), variable("y"))
}

// TestStrangeMacros: what the document says also of worlds that are not valid.
func TestStrangeMacros(t *testing.T) {
	macro := func(name string, params []api.Symbol, rest bool, body api.Term) api.Entry {
		return api.Entry{Kind: api.EntryMacro, Macro: api.Macro{Name: sym(name), Params: params, Rest: rest, Body: body}}
	}
	w := append(base(), macro("car", syms("x y"), false, tm("y")), macro("five", nil, true, tm("'6")), macro("twice", syms("x x"), false, tm("x")), macro("many", syms("p1 p2 p3 p4 p5 p6 p7 p8 p9 p10"), true, tm("(cons 'quote (cons p10 'nil))")), macro("quote", syms("x"), false, tm("'7")), macro("circle", nil, false, constant(circle())), macro("knot", nil, false, constant(within("(cons 1 **)"))), macro("knots", nil, false, constant(within("(id (knots))"))), macro("big", nil, false, constant(double("(cons ** **)", 100, obj("x")))), macro("nil", nil, false, tm("'8")), macro("wrong", nil, false, constant(api.Object{Kind: api.KindCons})))
	expectTerm(t, w, nil, obj("(car (none) x)"), variable("x"))
	expectTermError(t, w, nil, obj("(car x)"), api.ErrArity)
	expectTerm(t, w, nil, obj("(five)"), tm("'6"))
	expectTerm(t, w, nil, obj("(five (5) x y)"), tm("'6"))
	expectTerm(t, w, nil, obj("(twice x y)"), variable("x"))
	expectExpansion(t, w, obj("(many 1 2 3 4 5 6 7 8 9 10 11)"), obj("'(10 11)"))
	expectExpansion(t, w, obj("(many 1 2 3 4 5 6 7 8 9)"), obj("'nil"))
	expectExpandError(t, w, obj("(many 1 2 3 4 5 6 7 8)"), api.ErrArity)
	expectExpansion(t, w, obj("(quote x)"), object.Int(7))
	expectTerm(t, w, nil, obj("(quote x)"), constant(obj("x")))
	expectTerm(t, w, nil, obj("(nil)"), tm("'8"))
	expectTermError(t, w, nil, obj("(circle)"), api.ErrForm)
	expectTermError(t, w, nil, obj("(wrong)"), api.ErrForm)
	expectTermError(t, w, nil, obj("(knot)"), api.ErrLimit)
	expectTermError(t, w, nil, obj("(knots)"), api.ErrLimit)
	expectTermError(t, w, nil, obj("(big)"), api.ErrLimit)
	expectTerm(t, w, nil, letForm(obj("(big)"), obj("x")), variable("x"))
	expectTermError(t, w, nil, letForm(obj("(big)"), obj("(none)")), api.ErrFunction)
}

// deepWorld has a macro whose calls, for n, stand for many more calls nested in each other than a valid form can have.
func deepWorld(t *testing.T) []api.Entry {
	w := append(base(), defun("wrap n x", "(if (< n '1) x (cons 'car (cons (wrap (binary-+ n '-1) x) 'nil)))"),
		defmacro("deep n x", "(if (< n '1) x (wrap '150 (cons 'deep (cons (binary-+ n '-1) (cons x 'nil)))))"))
	expectValidWorld(t, w)
	return w
}

func TestDeepForms(t *testing.T) {
	w := deepWorld(t)
	for _, n := range []int{maxNesting - 3, maxNesting - 2, maxNesting - 1, maxNesting, maxNesting + 1, 2 * maxNesting, 65000} {
		expectTerm(t, w, nil, letForm(nest("car", n, obj("x")), obj("y")), variable("y"))
		expectTermError(t, w, nil, nest("car", n, obj("x")), api.ErrLimit)
		expectTermError(t, w, nil, nest("car", n, obj("(none)")), api.ErrFunction)
		expectTerm(t, w, nil, letForm(nest("car", n, obj("(same x)")), spend(499)), tm("'nil"))
		expectTermError(t, w, nil, letForm(nest("car", n, obj("(same x)")), spend(500)), api.ErrLimit)
	}
	// A stack of Go would not have room for all of them, if it were as large as is allowed on small machines.
	defer debug.SetMaxStack(debug.SetMaxStack(1 << 25))
	for _, n := range []int{2, 499} {
		expectTerm(t, w, nil, letForm(listOf("deep", object.Int(n), obj("x")), obj("y")), variable("y"))
		expectTermError(t, w, nil, listOf("deep", object.Int(n), obj("x")), api.ErrLimit)
		expectTermError(t, w, nil, listOf("deep", object.Int(n), obj("(none)")), api.ErrFunction)
	}
	expectTermError(t, w, nil, letForm(obj("(deep 500 x)"), obj("y")), api.ErrLimit)
}

// TestArgumentsAreKept: not even the unused capacity of a slice may be changed.
func TestArgumentsAreKept(t *testing.T) {
	w, extra := base(), funs("new x", "cons x", "id")
	texts := []string{"(let ((x 1) (y (list x y))) (cons x (or y z)))", "(let* ((x 1) (y x)) (all x y))", "(first (id x) y z)", "(cond ((new x) (list* x y)) (t (+ x y z)))", "(list x . nil)", "(quote x)"}
	var forms []api.Object
	for _, s := range texts {
		forms = append(forms, obj(s))
	}
	first := make([]api.Object, len(forms))
	for i, o := range forms {
		first[i], _, _ = Expand(w, o)
	}
	for n := range w {
		for k := range extra {
			for _, o := range forms {
				o.Pair = append(make([]api.Object, 0, 3), o.Pair...)
				Term(w[:n], extra[:k], o)
				Expand(w[:n], o)
				if !reflect.DeepEqual(o.Pair[:3][2], api.Object{}) {
					t.Error("unused capacity was changed")
				}
			}
		}
	}
	x, err := Term(w, nil, forms[0])
	if err != api.OK {
		t.Fatal("the test needs a term")
	}
	x.Args[0] = api.Term{}
	args := []api.Term{variable("x"), tm("'(a b)"), variable("y")}
	Form(app("f", args[:2]...))
	for i, s := range texts {
		again, _, _ := Expand(w, forms[i])
		if !object.Equal(forms[i], obj(s)) || !object.Equal(again, first[i]) {
			t.Errorf("%s was changed", s)
		}
	}
	if !reflect.DeepEqual(w, base()) || !reflect.DeepEqual(extra, funs("new x", "cons x", "id")) || !reflect.DeepEqual(args, []api.Term{variable("x"), tm("'(a b)"), variable("y")}) {
		t.Error("an argument was changed")
	}
}
