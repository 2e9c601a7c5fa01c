package translate

import (
	"slices"
	"strings"
	"testing"

	"lispprover/api"
	"lispprover/object"
)

// P12.1

func expectExpansions(t *testing.T, w []api.Entry, l []pair) {
	t.Helper()
	for _, c := range l {
		expectExpansion(t, w, obj(c.form), obj(c.want))
	}
}

func TestBuiltInMacros(t *testing.T) {
	for _, w := range [][]api.Entry{nil, base()} {
		expectExpansions(t, w, []pair{
			{"(list)", "nil"}, {"(list a)", "(cons a (list))"}, {"(list a b c)", "(cons a (list b c))"}, {"(list (list b) (list c))", "(cons (list b) (list (list c)))"},
			{"(list* a)", "a"}, {"(list* (b))", "(b)"}, {"(list* a b)", "(cons a (list* b))"}, {"(list* a b c d)", "(cons a (list* b c d))"},
			{"(and)", "t"}, {"(and a)", "a"}, {"(and a b)", "(if a (and b) nil)"}, {"(and a b c d)", "(if a (and b c d) nil)"},
			{"(or)", "nil"}, {"(or a)", "a"}, {"(or a b)", "(if a a (or b))"}, {"(or (f x) b c)", "(if (f x) (f x) (or b c))"},
			{"(cond)", "nil"}, {"(cond (a b))", "(if a b (cond))"}, {"(cond (a b) (c d) e)", "(if a b (cond (c d) e))"}, {"(cond ((a) (b)) 5 . nil)", "(if (a) (b) (cond 5))"}, {"(cond (nil t) (a))", "(if nil t (cond (a)))"},
			{"(+)", "0"}, {"(+ a)", "(binary-+ 0 a)"}, {"(+ a b)", "(binary-+ a b)"}, {"(+ a b c)", "(binary-+ a (+ b c))"}, {"(+ a b c d e)", "(binary-+ a (+ b c d e))"},
			{"(*)", "1"}, {"(* a)", "(binary-* 1 a)"}, {"(* a b)", "(binary-* a b)"}, {"(* a b c)", "(binary-* a (* b c))"}, {"(* a b c d e)", "(binary-* a (* b c d e))"},
			{"(- a)", "(unary-- a)"}, {"(- a b)", "(binary-+ a (unary-- b))"}, {"(/ a)", "(unary-/ a)"}, {"(/ a b)", "(binary-* a (unary-/ b))"},
			{"(<= a b)", "(not (< b a))"}, {"(> a b)", "(< b a)"}, {"(>= a b)", "(not (< a b))"},
			{"(append)", "nil"}, {"(append a)", "a"}, {"(append a b)", "(binary-append a (append b))"}, {"(append a b c)", "(binary-append a (append b c))"},
			// No form is expanded further, and what is not a valid form is not noticed.
			{"(list (list*) . nil)", "(cons (list*) (list))"}, {"(and (and) (quote) 1)", "(if (and) (and (quote) 1) nil)"}, {"(+ (5 . 6) \"s\")", "(binary-+ (5 . 6) \"s\")"},
		})
		for _, s := range []string{"(list*)", "(cond a)", "(cond nil)", "(cond (a))", "(cond (a b c))", "(cond (a . b))", "(cond (a b . c))", "(cond 5 (a b))", "(cond \"ab\")", "(-)", "(- a b c)", "(/)", "(/ a b c)", "(<=)", "(<= a)", "(<= a b c)", "(>)", "(> a)", "(> a b c)"} {
			expectExpandError(t, w, obj(s), api.ErrForm)
		}
	}
	for _, s := range []string{"(>=)", "(>= a)", "(>= a b c)"} {
		expectExpandError(t, nil, obj(s), api.ErrForm)
		// A built-in macro has precedence over one of the world.
		expectExpandError(t, base(), obj(s), api.ErrForm)
	}
}

func TestMacrosOfTheWorld(t *testing.T) {
	w := base()
	expectValidWorld(t, w)
	expectExpansions(t, w, []pair{
		{"(same a)", "a"}, {"(same (f . x))", "(f . x)"}, {"(same (same a))", "(same a)"}, {"(same nil)", "nil"}, {"(swap a b)", "(cons b a)"}, {"(swap (a) 5)", "(cons 5 (a))"}, {"(zero)", "0"}, {"(dup (f x))", "(cons (f x) (f x))"},
		{"(all)", "'nil"}, {"(all a)", "'(a)"}, {"(all a (b) 3)", "'(a (b) 3)"}, {"(first a)", "'(a)"}, {"(first a b c d)", "'(a b c d)"}, {"(third a b)", "a"}, {"(third a b c)", "c"}, {"(third a b c d)", "c"}, {"(count-of a b c d e f g h i j k)", "11"}, {"(count-of)", "0"},
		{"(a::cond x)", "x"}, {"(let x)", "17"}, {"(let* x y)", "18"}, {"(again)", "(again)"}, {"(more a)", "(more (id a))"}, {"(m8 1 2 3 4 5 6 7 8)", "(eight 8 7 6 5 4 3 2 1)"}, {"(huge \"ab\")", "\"abab\""},
	})
	for _, s := range []string{
		"(same)", "(same a b)", "(swap)", "(swap a)", "(swap a b c)", "(zero 1)", "(zero 1 2)", "(first)", "(third)", "(third a)", "(a::cond)", "(a::cond x y)", "(let)", "(let ((x 1)) x)", "(let* x)", "(m8 1 2 3 4 5 6 7)", "(m8 1 2 3 4 5 6 7 8 9)",
		// The body would have an error.
		"(g-of)", "(spin 1)", "(huge)",
	} {
		expectExpandError(t, w, obj(s), api.ErrArity)
	}
}

func TestErrorsOfTheEvaluation(t *testing.T) {
	w := base()
	expectExpandError(t, w, obj("(g-of x)"), api.ErrExecutable)
	expectExpandError(t, w, obj("(spin)"), api.ErrSteps)
	expectExpandError(t, w, listOf("huge", object.Text(strings.Repeat("a", 101))), api.ErrLimit)
	expectExpandError(t, w, listOf("dup", chain(1000)), api.ErrLimit)
	expectExpansion(t, w, listOf("huge", object.Text(strings.Repeat("a", 100))), object.Text(strings.Repeat("a", 200)))
	expectExpandError(t, []api.Entry{defmacro("m", "(none)")}, obj("(m)"), api.ErrFunction)
	expectExpandError(t, []api.Entry{defmacro("m", "(car)")}, obj("(m)"), api.ErrArity)
	expectExpandError(t, []api.Entry{defmacro("m y", "x")}, obj("(m 1)"), api.ErrUnbound)
	// (down n) takes 5n + 3 steps.
	w = append(w, defun("down n", "(if (< n '1) '0 (binary-+ '1 (down (binary-+ n '-1))))"), defmacro("deep x", "(down x)"))
	expectExpansion(t, w, obj("(deep 3999)"), object.Int(3999))
	expectExpandError(t, w, obj("(deep 4000)"), api.ErrSteps)
}

// TestWorldOfAMacro: the first macro with a name counts, and only those of entries of Kind EntryMacro.
func TestWorldOfAMacro(t *testing.T) {
	one, two := defmacro("m x", "'1"), defmacro("m x y", "'2")
	expectExpansion(t, []api.Entry{one, two}, obj("(m a)"), object.Int(1))
	expectExpandError(t, []api.Entry{one, two}, obj("(m a b)"), api.ErrArity)
	expectExpansion(t, []api.Entry{two, one}, obj("(m a b)"), object.Int(2))
	two.Kind = api.EntryLabel
	expectExpansion(t, []api.Entry{two, one}, obj("(m a)"), object.Int(1))
	expectNoMacro(t, []api.Entry{two}, obj("(m a b)"))
	expectNoMacro(t, nil, obj("(m a)"))
	w := base()
	for n := range w {
		if w[n].Name == sym("same") {
			expectNoMacro(t, w[:n], obj("(same a)"))
			expectExpansion(t, w[:n+1], obj("(same a)"), obj("a"))
		}
	}
}

func TestNoMacroCalls(t *testing.T) {
	w := base()
	for _, s := range []string{
		"nil", "t", "x", "list", "same", "5", "-1/2", "\"list\"", "(x)", "(nil)", "(t)", "(car x)", "(five)", "(g x)", "(unknown)", "(quote x)", "(quote)", "(local x)", "(hidden x)", "(th)", "(here)", "(if a b c)", "(not x)", "(binary-append x y)",
		"(list . a)", "(list a . b)", "(same . a)", "(same a . b)", "(and a b . t)", "((list a))", "((same) a)", "(5 list)", "(\"list\" a)", "(\"same\" a)", "(nil list)", "(a::list x)", "(a::and)", "(a::same x)", "(a::let x)", "(lists a)", "(list** a)", "(an)", "(a::+ 1)", "(cons (list a) (same b))", "(< a b)",
	} {
		expectNoMacro(t, w, obj(s))
	}
	for _, s := range []string{"(let ((x 1)) x)", "(let)", "(let* ((x 1)) x)", "(let* () x)", "(same a)", "(>= . x)"} {
		expectNoMacro(t, nil, obj(s))
	}
}

// TestManyArguments: the number of the arguments of a macro call has no limit.
func TestManyArguments(t *testing.T) {
	w := base()
	args := chain(1400)
	items := slices.Repeat([]api.Object{object.Int(1)}, 1400)
	expectExpansion(t, w, object.Cons(obj("all"), args), listOf("quote", args))
	expectExpansion(t, w, object.Cons(obj("list"), args), listOf("cons", items[0], listOf("list", items[1:]...)))
	expectExpansion(t, w, object.Cons(obj("or"), args), listOf("if", items[0], items[0], listOf("or", items[1:]...)))
	// The expansion of a built-in macro may have more nodes than an object that is valid.
	big := nest("car", 700, obj("x"))
	expectExpansion(t, nil, listOf("or", big, obj("y")), listOf("if", big, big, obj("(or y)")))
}
