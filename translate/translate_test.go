package translate

import (
	"strings"
	"testing"

	"lispprover/api"
	"lispprover/object"
	"lispprover/primitive"
)

// P12.2, except for the limits

func TestAtoms(t *testing.T) {
	expectValidWorld(t, base())
	expectTerms(t, []pair{{"nil", "'nil"}, {"t", "'t"}, {"0", "'0"}, {"-3/4", "'-3/4"}, {"\"\"", "'\"\""}, {"\"car\"", "'\"car\""}})
	for _, s := range []string{"x", "a::x", "a::nil", "a::t", "car", "list", "same", "quote", "let", "five", "?x", "nil-"} {
		expectTerm(t, base(), nil, obj(s), variable(s))
	}
}

func TestQuote(t *testing.T) {
	for _, s := range []string{"x", "nil", "t", "5", "\"s\"", "(a . b)", "(list a)", "(none)", "(quote)", "((let) . 5)"} {
		expectTerm(t, base(), nil, obj("'"+s), constant(obj(s)))
		expectTerm(t, base(), nil, obj("(id '"+s+")"), app("id", constant(obj(s))))
	}
	expectTermErrors(t, []failure{{"(quote)", api.ErrForm}, {"(quote a b)", api.ErrForm}, {"(quote none none none)", api.ErrForm}, {"(quote . a)", api.ErrForm}, {"(quote a . b)", api.ErrForm}})
	// quote is neither a macro nor a function of anything.
	w := append(base(), defmacro("quote x y", "x"), defun("quote x y", "x"))
	expectTermError(t, w, funs("quote x y"), obj("(quote a b)"), api.ErrForm)
	expectTerm(t, w, funs("quote x y"), obj("'a"), constant(obj("a")))
	expectTermErrors(t, []failure{{"(a::quote x)", api.ErrFunction}})
}

func TestLists(t *testing.T) {
	expectTermErrors(t, []failure{
		{"(5)", api.ErrForm}, {"(\"car\" x)", api.ErrForm}, {"((car) x)", api.ErrForm}, {"((lambda (x) x) 5)", api.ErrForm}, {"(car . x)", api.ErrForm}, {"(car x . y)", api.ErrForm}, {"(list x . y)", api.ErrForm}, {"(same x . y)", api.ErrForm}, {"(none . x)", api.ErrForm}, {"(5 . x)", api.ErrForm}, {"('car x)", api.ErrForm},
		{"(let ((x 1)) x . y)", api.ErrForm}, {"(5 (none))", api.ErrForm}, {"(car (none) . y)", api.ErrForm}, {"(id (5))", api.ErrForm}, {"(id (id . 5))", api.ErrForm},
		{"(nil)", api.ErrFunction}, {"(t x)", api.ErrFunction}, {"(nil (5))", api.ErrForm},
	})
}

func TestCalls(t *testing.T) {
	expectTerms(t, []pair{
		{"(car x)", "(car x)"}, {"(five)", "(five)"}, {"(g (pick y))", "(g (pick y))"}, {"(three 1 x 'x)", "(three '1 x 'x)"}, {"(eight 1 2 3 4 5 6 7 8)", "(eight '1 '2 '3 '4 '5 '6 '7 '8)"}, {"(if nil t a::x)", "(if 'nil 't a::x)"}, {"(a::list (a::let list))", "(a::list (a::let list))"}, {"(cons (cons x (cons y nil)) \"z\")", "(cons (cons x (cons y 'nil)) '\"z\")"}, {"(binary-append car cdr)", "(binary-append car cdr)"},
	})
	for _, f := range primitive.Names() {
		n, _ := primitive.Arity(f)
		for k := range n + 2 {
			form := repeat(f.Name, k, obj("x"))
			if k != n {
				expectTermError(t, nil, nil, form, api.ErrArity)
				continue
			}
			args := make([]api.Term, k)
			for i := range args {
				args[i] = variable("x")
			}
			expectTerm(t, nil, nil, form, app(f.Name, args...))
		}
	}
	expectTermErrors(t, []failure{
		{"(none)", api.ErrFunction}, {"(none x)", api.ErrFunction}, {"(a::car x)", api.ErrFunction}, {"(local x)", api.ErrFunction}, {"(hidden x)", api.ErrFunction}, {"(th)", api.ErrFunction}, {"(here)", api.ErrFunction}, {"(cap x)", api.ErrFunction}, {"(a-package)", api.ErrFunction}, {"(x)", api.ErrFunction}, {"(a::same x)", api.ErrFunction},
		{"(car)", api.ErrArity}, {"(car x y)", api.ErrArity}, {"(five 5)", api.ErrArity}, {"(id)", api.ErrArity}, {"(g x y)", api.ErrArity}, {"(pick)", api.ErrArity}, {"(eight 1 2 3 4 5 6 7)", api.ErrArity}, {"(eight 1 2 3 4 5 6 7 8 9)", api.ErrArity}, {"(if x y)", api.ErrArity},
	})
}

// TestTheFirstError: arguments come from left to right, and before their call.
func TestTheFirstError(t *testing.T) {
	expectTermErrors(t, []failure{
		{"(none (car))", api.ErrArity}, {"(car (none) x)", api.ErrFunction}, {"(car (quote) x)", api.ErrForm}, {"(none 1 (2))", api.ErrForm}, {"(cons (car) (none))", api.ErrArity}, {"(cons (none) (car))", api.ErrFunction}, {"(cons x (none))", api.ErrFunction}, {"(cons (none) (5))", api.ErrFunction}, {"(cons (5) (none))", api.ErrForm},
		{"(cons (id (none)) (car))", api.ErrFunction}, {"(cons (id (id x x)) (none))", api.ErrArity}, {"(if t (none) (car))", api.ErrFunction}, {"(if nil x (car))", api.ErrArity}, {"(same x (none))", api.ErrArity}, {"(same (none))", api.ErrFunction}, {"(swap (none) (car))", api.ErrArity}, {"(third (none) (car))", api.ErrFunction}, {"(cons (list*) (none))", api.ErrForm}, {"(cons (none) (list*))", api.ErrFunction},
		{"(cons (spin) (none))", api.ErrSteps}, {"(cons (none) (spin))", api.ErrFunction}, {"(cons (g-of x) (none))", api.ErrExecutable}, {"(cond ((none) (car)) 5)", api.ErrFunction}, {"(cond (x y) 5)", api.ErrForm}, {"(cond (x (car)) 5)", api.ErrArity}, {"(> (none) (car))", api.ErrArity}, {"(>= (none) (car))", api.ErrFunction}, {"(let ((x (none))) (car))", api.ErrFunction}, {"(list* (none))", api.ErrFunction},
	})
}

func TestMacroCalls(t *testing.T) {
	expectTerms(t, []pair{
		{"(list)", "'nil"}, {"(list 1 x)", "(cons '1 (cons x 'nil))"}, {"(list* 1 x)", "(cons '1 x)"}, {"(and)", "'t"}, {"(and x)", "x"}, {"(and x y z)", "(if x (if y z 'nil) 'nil)"}, {"(or)", "'nil"}, {"(or x y z)", "(if x x (if y y z))"}, {"(or (car x) (or y))", "(if (car x) (car x) y)"},
		{"(cond)", "'nil"}, {"(cond (x y))", "(if x y 'nil)"}, {"(cond ((consp x) 1) (t 2))", "(if (consp x) '1 (if 't '2 'nil))"}, {"(+)", "'0"}, {"(+ x)", "(binary-+ '0 x)"}, {"(+ x y)", "(binary-+ x y)"}, {"(+ x y z 1)", "(binary-+ x (binary-+ y (binary-+ z '1)))"}, {"(*)", "'1"}, {"(* x)", "(binary-* '1 x)"}, {"(* x y z)", "(binary-* x (binary-* y z))"},
		{"(- x)", "(unary-- x)"}, {"(- x y)", "(binary-+ x (unary-- y))"}, {"(/ x)", "(unary-/ x)"}, {"(/ x y)", "(binary-* x (unary-/ y))"}, {"(<= x y)", "(not (< y x))"}, {"(> x y)", "(< y x)"}, {"(>= x y)", "(not (< x y))"}, {"(append)", "'nil"}, {"(append x)", "x"}, {"(append x y z)", "(binary-append x (binary-append y z))"},
		{"(same x)", "x"}, {"(same (same (same 'x)))", "'x"}, {"(swap (swap x y) (zero))", "(cons '0 (cons y x))"}, {"(all x (none))", "'(x (none))"}, {"(count-of x y)", "'2"}, {"(id (dup (dup x)))", "(id (cons (cons x x) (cons x x)))"}, {"(same nil)", "'nil"}, {"(third (none) (none) y)", "y"}, {"(a::cond (cond))", "'nil"}, {"(m8 1 2 3 4 5 6 7 8)", "(eight '8 '7 '6 '5 '4 '3 '2 '1)"},
		{"(+ (- (* 2 x)) (list))", "(binary-+ (unary-- (binary-* '2 x)) 'nil)"},
	})
	expectTermErrors(t, []failure{
		{"(list*)", api.ErrForm}, {"(cond x)", api.ErrForm}, {"(-)", api.ErrForm}, {"(<= x)", api.ErrForm}, {"(>= x)", api.ErrForm}, {"(same)", api.ErrArity}, {"(zero 1)", api.ErrArity}, {"(third x)", api.ErrArity}, {"(g-of x)", api.ErrExecutable}, {"(spin)", api.ErrSteps},
	})
	expectTermError(t, base(), nil, listOf("huge", object.Text(strings.Repeat("a", 101))), api.ErrLimit)
	// In a world without not, the expansion has an error.
	expectTermError(t, nil, nil, obj("(<= x y)"), api.ErrFunction)
	expectTermError(t, nil, nil, obj("(append x y)"), api.ErrFunction)
	expectTerm(t, nil, nil, obj("(append x)"), variable("x"))
}

// TestMacrosBeforeFunctions: a macro has precedence over functions with its name.
func TestMacrosBeforeFunctions(t *testing.T) {
	w := append(base(), defun("cond x", "x"), defun("swap x", "x"), defun("let x", "x"), defmacro("car x y", "y"))
	extra := funs("and x", "same x y", "cond x")
	expectTerm(t, w, extra, obj("(cond)"), tm("'nil"))
	expectTerm(t, w, extra, obj("(swap x y)"), tm("(cons y x)"))
	expectTerm(t, w, extra, obj("(and x y)"), tm("(if x y 'nil)"))
	expectTerm(t, w, extra, obj("(same x)"), tm("x"))
	expectTerm(t, w, extra, obj("(car x y)"), tm("y"))
	expectTermError(t, w, extra, obj("(swap x)"), api.ErrArity)
	expectTermError(t, w, extra, obj("(same x y)"), api.ErrArity)
	expectTermError(t, w, extra, obj("(let x)"), api.ErrForm)
	expectTermError(t, w, extra, obj("(cond x)"), api.ErrForm)
}

// TestExtraFunctions: extra functions come before those of the world and before the primitives, and the first one with a name counts.
func TestExtraFunctions(t *testing.T) {
	extra := funs("new x y", "car x y", "id", "new x", "nil x")
	extra = append(extra, api.Function{Name: sym("bare"), Params: []api.Symbol{{}, {}, {}}, Class: 77})
	for _, w := range [][]api.Entry{nil, base()} {
		for _, c := range []pair{{"(new 1 (id))", "(new '1 (id))"}, {"(car x y)", "(car x y)"}, {"(bare 1 2 3)", "(bare '1 '2 '3)"}, {"(nil x)", "(nil x)"}, {"(cdr x)", "(cdr x)"}, {"(list (new x y))", "(cons (new x y) 'nil)"}, {"(let ((x (id))) (new x x))", "(new (id) (id))"}} {
			expectTerm(t, w, extra, obj(c.form), tm(c.want))
		}
		for _, c := range []failure{{"(new x)", api.ErrArity}, {"(car x)", api.ErrArity}, {"(id x)", api.ErrArity}, {"(bare)", api.ErrArity}, {"(nil)", api.ErrArity}, {"(none)", api.ErrFunction}, {"(a::new x y)", api.ErrFunction}} {
			expectTermError(t, w, extra, obj(c.form), c.want)
		}
	}
	expectTermError(t, base(), nil, obj("(new x y)"), api.ErrFunction)
	expectTerm(t, base(), []api.Function{}, obj("(id x)"), tm("(id x)"))
	// They are no functions of the bodies of macros.
	expectTermError(t, append(base(), defmacro("m x", "(new x x)")), extra, obj("(m 1)"), api.ErrFunction)
}

func TestLet(t *testing.T) {
	expectTerms(t, []pair{
		{"(let ((x 1)) x)", "'1"}, {"(let () x)", "x"}, {"(let () (let () 5))", "'5"}, {"(let ((x 1) (y 2)) (cons x (cons y z)))", "(cons '1 (cons '2 z))"}, {"(let ((x y) (y x)) (cons x y))", "(cons y x)"}, {"(let ((x (car x))) (cons x x))", "(cons (car x) (car x))"}, {"(let ((x 1)) y)", "y"}, {"(let ((x 1)) 'x)", "'x"},
		{"(let ((x 1)) (let ((x 2)) x))", "'2"}, {"(let ((x 1)) (let ((y x)) (cons x y)))", "(cons '1 '1)"}, {"(let ((x 1)) (let ((x (cons x x))) (car x)))", "(car (cons '1 '1))"}, {"(let ((y x)) (let ((x 1)) y))", "x"}, {"(let ((x (let ((x y)) (id x)))) (cons x y))", "(cons (id y) y)"}, {"(let ((x 1)) (cons (let ((x 2)) x) x))", "(cons '2 '1)"},
		{"(let ((list 1) (quote 2) (let 3) (car 4)) (list (car car) 'let let quote))", "(cons (car '4) (cons 'let (cons '3 (cons '2 'nil))))"}, {"(let ((a::x 1) (x 2)) (cons x a::x))", "(cons '2 '1)"}, {"(let ((a::nil 1) (a::t 2)) (if a::nil a::t nil))", "(if '1 '2 'nil)"}, {"(let ((x (list 1))) (and x x))", "(if (cons '1 'nil) (cons '1 'nil) 'nil)"}, {"(let ((x (+ 1 y))) (or x z))", "(if (binary-+ '1 y) (binary-+ '1 y) z)"},
		{"(let ((x 1) (y 2) (z 3) (v 4) (w 5) (p 6) (q 7) (r 8) (s 9)) (cons x (cons s q)))", "(cons '1 (cons '9 '7))"}, {"(let ((x 'x)) (same x))", "'x"}, {"(let ((x 1)) (count-of x))", "'1"}, {"(let ((x 1)) (first x x))", "'(x x)"}, {"(let ((?x 1)) ?x)", "'1"}, {"(let ((x 1) (y x)) (cons x y))", "(cons '1 x)"},
		{"(let ((x 1) (y 2)) (+ x y))", "(binary-+ '1 '2)"}, {"(let ((x nil) (y t)) (cons x y))", "(cons 'nil 't)"},
	})
	// The document's example.
	expectTerm(t, base(), nil, obj("(let ((x 1) (y x)) (+ x y))"), tm("(binary-+ '1 x)"))
}

func TestLetErrors(t *testing.T) {
	expectTermErrors(t, []failure{
		{"(let)", api.ErrForm}, {"(let ((x 1)))", api.ErrForm}, {"(let ((x 1)) x y)", api.ErrForm}, {"(let x y)", api.ErrForm}, {"(let 5 y)", api.ErrForm}, {"(let (x) y)", api.ErrForm}, {"(let ((x)) y)", api.ErrForm}, {"(let ((x 1 2)) y)", api.ErrForm}, {"(let (()) y)", api.ErrForm}, {"(let (nil) y)", api.ErrForm}, {"(let ((x . 1)) y)", api.ErrForm}, {"(let ((x 1 . 2)) y)", api.ErrForm}, {"(let ((x 1) . y) y)", api.ErrForm}, {"(let ((x 1) 5) y)", api.ErrForm}, {"(let t y)", api.ErrForm}, {"(let (x 1) x)", api.ErrForm}, {"(let ((x 1)) . x)", api.ErrForm},
		{"(let ((5 1)) y)", api.ErrForm}, {"(let ((\"x\" 1)) y)", api.ErrForm}, {"(let (((x) 1)) y)", api.ErrForm}, {"(let ((x 1) ('y 2)) y)", api.ErrForm},
		{"(let ((nil 1)) y)", api.ErrName}, {"(let ((t 1)) y)", api.ErrName}, {"(let ((x 1) (nil 1)) y)", api.ErrName}, {"(let ((() 1)) y)", api.ErrName}, {"(let ((x 1) (x 2)) y)", api.ErrDuplicate}, {"(let ((x 1) (y 2) (x 1)) y)", api.ErrDuplicate}, {"(let ((a::x 1) (x 2) (y 3) (a::x 4)) y)", api.ErrDuplicate},
		// All errors of the one kind are found before any of the next.
		{"(let ((nil 1) (5 1)) y)", api.ErrForm}, {"(let ((nil 1) (x)) y)", api.ErrForm}, {"(let ((x 1) (x 1) (5 1)) y)", api.ErrForm}, {"(let ((x 1) (x 1) (y)) y)", api.ErrForm}, {"(let ((x 1) (x 1) (t 2)) y)", api.ErrName}, {"(let ((x 1) (x 1) . 5) y)", api.ErrForm}, {"(let ((nil 1)) x y)", api.ErrForm}, {"(let ((nil 1) (nil 1)) x)", api.ErrName},
		// They are found before anything is translated.
		{"(let ((x (none)) (5 1)) y)", api.ErrForm}, {"(let ((x (none)) (t 1)) y)", api.ErrName}, {"(let ((x (none)) (x 1)) y)", api.ErrDuplicate}, {"(let ((x (none))) x y)", api.ErrForm}, {"(let ((x 1) (x 1)) (5))", api.ErrDuplicate},
		// Then come the forms in order.
		{"(let ((x (none)) (y (car))) (5))", api.ErrFunction}, {"(let ((x (car)) (y (none))) (5))", api.ErrArity}, {"(let ((x 1) (y (none))) (5))", api.ErrFunction}, {"(let ((x 1)) (5))", api.ErrForm}, {"(let ((x (5))) (none))", api.ErrForm}, {"(let ((x (list*))) 1)", api.ErrForm}, {"(let ((x (none))) 1)", api.ErrFunction}, {"(let () (none))", api.ErrFunction}, {"(car (let ((x (none))) 1) (5))", api.ErrFunction},
	})
	// A world may have functions and macros with these names, but they are not called.
	w := append(base(), defun("let x", "x"), defun("let* x", "x"))
	for _, s := range []string{"(let x)", "(let* x)", "(let* x y)", "(let 1 2)"} {
		expectTermError(t, w, funs("let x y", "let* x y"), obj(s), api.ErrForm)
	}
}

func TestLetStar(t *testing.T) {
	expectTerms(t, []pair{
		{"(let* () x)", "x"}, {"(let* ((x 1)) x)", "'1"}, {"(let* ((x 1) (y x)) (cons x y))", "(cons '1 '1)"}, {"(let* ((x 1) (x (cons x x)) (x (car x))) (id x))", "(id (car (cons '1 '1)))"}, {"(let* ((x y) (y x)) (cons x y))", "(cons y y)"}, {"(let* ((x (car x)) (y (cdr x))) (cons x y))", "(cons (car x) (cdr (car x)))"}, {"(let* ((x 1) (y 2) (z 3)) 'x)", "'x"},
		{"(let* ((x 1)) (let ((x 2) (y x)) (cons x y)))", "(cons '2 '1)"}, {"(let ((x 1)) (let* ((y x) (x 2)) (cons x y)))", "(cons '2 '1)"}, {"(let* ((list 1) (let list)) (list let 'let*))", "(cons '1 (cons 'let* 'nil))"}, {"(let* ((a 1) (b a) (c b) (d c) (e d) (f e) (g f) (h g) (i h)) i)", "'1"},
	})
	expectTermErrors(t, []failure{
		{"(let*)", api.ErrForm}, {"(let* ((x 1)))", api.ErrForm}, {"(let* ((x 1)) x y)", api.ErrForm}, {"(let* ())", api.ErrForm}, {"(let* () x y)", api.ErrForm}, {"(let* x y)", api.ErrForm}, {"(let* (x) y)", api.ErrForm}, {"(let* ((x)) y)", api.ErrForm}, {"(let* ((x 1 2)) y)", api.ErrForm}, {"(let* ((x 1) . y) y)", api.ErrForm}, {"(let* ((x . 1)) y)", api.ErrForm}, {"(let* (nil) y)", api.ErrForm}, {"(let* t y)", api.ErrForm},
		{"(let* ((5 1)) y)", api.ErrForm}, {"(let* ((x 1) (5 1)) y)", api.ErrForm}, {"(let* ((nil 1)) y)", api.ErrName}, {"(let* ((x 1) (t 1)) y)", api.ErrName},
		// It has not the form at all: this is found first.
		{"(let* ((x (none)) (y)) y)", api.ErrForm}, {"(let* ((x (none)) . 5) y)", api.ErrForm}, {"(let* ((x (none))) y z)", api.ErrForm}, {"(let* ((nil 1) (y)) y)", api.ErrForm},
		// The names are those of the let forms for which it stands, one after another.
		{"(let* ((x (none)) (5 1)) y)", api.ErrFunction}, {"(let* ((x (none)) (nil 1)) y)", api.ErrFunction}, {"(let* ((nil (none)) (5 1)) y)", api.ErrName}, {"(let* ((x 1) (nil (none))) (5))", api.ErrName}, {"(let* ((x 1) (y (none))) (5))", api.ErrFunction}, {"(let* ((x (car)) (y (none))) (5))", api.ErrArity}, {"(let* ((x 1) (y 1)) (5))", api.ErrForm}, {"(let* () (none))", api.ErrFunction},
	})
}
