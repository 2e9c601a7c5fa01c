package evaluate

import (
	"math"
	"strings"
	"testing"

	"lispprover/api"
	"lispprover/object"
	"lispprover/primitive"
)

// trial is a term, the values of its variables, and the outcome of its evaluation in the base world.
type trial struct {
	term, env string
	want      outcome
}

func expectTrials(t *testing.T, l []trial) {
	t.Helper()
	w := base()
	expectValid(t, w)
	for _, c := range l {
		expectOutcome(t, c.term+" where "+c.env, ofTerm(w, tm(c.term), bindings(c.env)), c.want)
	}
}

func TestVariablesAndConstants(t *testing.T) {
	expectTrials(t, []trial{
		{"x", "x 1", ok("1", 0)}, {"x", "y 1 x 2", ok("2", 0)}, {"y", "y (1 . 2) x 2", ok("(1 . 2)", 0)}, {"x", "x nil", ok("nil", 0)},
		{"x", "x 1 x 2", ok("1", 0)}, {"x", "y 0 x 1 x 2 x 3", ok("1", 0)}, {"(cons x x)", "x 1 x 2", ok("(1 . 1)", 1)},
		{"x", "", fails(api.ErrUnbound, 0)}, {"x", "y 1", fails(api.ErrUnbound, 0)}, {"x", "a::x 1", fails(api.ErrUnbound, 0)}, {"a::x", "x 1", fails(api.ErrUnbound, 0)}, {"a::x", "x 1 a::x 2", ok("2", 0)},
		{"car", "car 7", ok("7", 0)}, {"five", "", fails(api.ErrUnbound, 0)}, {"five", "five 6", ok("6", 0)},
		{"1", "", ok("1", 0)}, {"nil", "nil 1 t 2", ok("nil", 0)}, {"t", "", ok("t", 0)}, {"\"x\"", "x 1", ok("\"x\"", 0)}, {"'x", "x 1", ok("x", 0)}, {"'(car x)", "x 1", ok("(car x)", 0)}, {"'(unknown . 1/2)", "", ok("(unknown . 1/2)", 0)},
	})
	for _, name := range syms("nil t") {
		x := api.Term{Kind: api.Variable, Name: name}
		expectOutcome(t, "a variable that is not valid", ofTerm(nil, x, bindings("x 1 nil 2 t 2")), ok("2", 0))
		expectOutcome(t, "a variable that is not valid", ofTerm(nil, x, bindings("x 1")), fails(api.ErrUnbound, 0))
	}
	expectOutcome(t, "a value that is not valid", ofTerm(nil, tm("x"), []api.Binding{{Var: sym("x"), Value: chain(1500)}}), gives(chain(1500), 0))
	expectOutcome(t, "a constant that is not valid", ofTerm(nil, constant(chain(1500)), nil), gives(chain(1500), 0))
}

func TestPrimitiveCalls(t *testing.T) {
	expectTrials(t, []trial{
		{"(cons x y)", "x 1 y 2", ok("(1 . 2)", 1)}, {"(cons y x)", "x 1 y 2", ok("(2 . 1)", 1)}, {"(car '(1 . 2))", "", ok("1", 1)}, {"(car 5)", "", ok("nil", 1)}, {"(unary-/ 0)", "", ok("0", 1)}, {"(< x '2)", "x 1", ok("t", 1)},
		{"(cons (car x) (cons (cdr x) x))", "x (1 . 2)", ok("(1 2 1 . 2)", 4)}, {"(car (cdr (cdr x)))", "x (1 2 3)", ok("3", 3)}, {"(equal (car x) 'x)", "x (x)", ok("t", 2)}, {"(binary-+ \"1\" (binary-* x x))", "x 3/2", ok("9/4", 2)},
		{"(intern (symbol-name 'id) \"a\")", "", ok("a::id", 2)},
	})
	samples := append(objs(`nil t 0 1 -1 2/3 97 255 "" "a" "ab" "lisp" x a::x (1) (1 . 2) ((a) "b" 3/4)`), object.Text(strings.Repeat("a", 150)), object.Rational("1", "1"+strings.Repeat("0", 99)))
	for _, f := range primitive.Names() {
		n, _ := primitive.Arity(f)
		trials := len(samples)
		if n > 1 {
			trials *= len(samples)
		}
		for i := range trials {
			args := []api.Object{samples[i%len(samples)], samples[i/len(samples)], samples[(i+1)%len(samples)]}[:n]
			value, err := primitive.Apply(f, args...)
			want := fails(err, 1)
			if err == api.OK {
				want = gives(value, 1)
			}
			expectOutcome(t, f.Name, ofTerm(base(), api.Term{Kind: api.Call, Name: f, Args: constants(args)}, nil), want)
			expectOutcome(t, f.Name, ofApply(nil, f, args), want)
		}
	}
}

func TestLimits(t *testing.T) {
	w := base()
	for _, c := range []struct {
		term string
		x    api.Object
		want outcome
	}{
		{"(cons '1 x)", chain(1498), gives(chain(1499), 1)}, {"(cons '1 x)", chain(1499), fails(api.ErrLimit, 1)}, {"(cons x x)", chain(749), gives(object.Cons(chain(749), chain(749)), 1)}, {"(cons x x)", chain(750), fails(api.ErrLimit, 1)},
		{"(string-append x x)", object.Text(strings.Repeat("a", 100)), ok(`"`+strings.Repeat("a", 200)+`"`, 1)}, {"(string-append x x)", object.Text(strings.Repeat("a", 101)), fails(api.ErrLimit, 1)},
		{"(binary-+ '1 x)", object.Rational(strings.Repeat("9", 99), "1"), ok("1"+strings.Repeat("0", 99), 1)}, {"(binary-+ '1 x)", object.Rational(strings.Repeat("9", 100), "1"), fails(api.ErrLimit, 1)}, {"(binary-* x x)", object.Rational("1", "1"+strings.Repeat("0", 50)), fails(api.ErrLimit, 1)},
		// What would hide it is not reached; what comes before it is.
		{"(car (cons '1 x))", chain(1499), fails(api.ErrLimit, 2)}, {"(id (id (cons '1 x)))", chain(1499), fails(api.ErrLimit, 3)}, {"(if (cons '1 x) y y)", chain(1499), fails(api.ErrLimit, 2)}, {"(cons (cons '1 x) y)", chain(1499), fails(api.ErrLimit, 2)}, {"(cons y (cons '1 x))", chain(1499), fails(api.ErrUnbound, 1)},
		{"(cons '1 (cons '1 y))", chain(1499), fails(api.ErrUnbound, 2)}, {"(if x '1 (cons '1 x))", chain(1499), ok("1", 1)}, {"(twice x)", chain(750), fails(api.ErrLimit, 3)}, {"(cons (id x) (swap x x))", chain(740), fails(api.ErrLimit, 4)},
	} {
		expectOutcome(t, c.term, ofTerm(w, tm(c.term), []api.Binding{{Var: sym("x"), Value: c.x}}), c.want)
	}
}

func TestIf(t *testing.T) {
	expectTrials(t, []trial{
		{"(if x '1 '2)", "x t", ok("1", 1)}, {"(if x '1 '2)", "x nil", ok("2", 1)}, {"(if x '1 '2)", "x 0", ok("1", 1)}, {"(if x '1 '2)", `x ""`, ok("1", 1)}, {"(if x '1 '2)", "x a::nil", ok("1", 1)}, {"(if x '1 '2)", "x (nil)", ok("1", 1)}, {"(if x '1 '2)", `x "nil"`, ok("1", 1)}, {"(if x '1 '2)", "x nill", ok("1", 1)},
		{"(if t x y)", "x 1", ok("1", 1)}, {"(if nil x y)", "y 1", ok("1", 1)}, {"(if nil x y)", "x 1", fails(api.ErrUnbound, 1)}, {"(if t x y)", "y 1", fails(api.ErrUnbound, 1)}, {"(if z x y)", "x 1 y 1", fails(api.ErrUnbound, 1)}, {"(if z x y)", "", fails(api.ErrUnbound, 1)},
		// Only one of the two is evaluated.
		{"(if (consp x) (car x) (unknown))", "x (3)", ok("3", 3)}, {"(if (consp x) (unknown) (id x))", "x 3", ok("3", 3)}, {"(if t x (car))", "x 1", ok("1", 1)}, {"(if t x (g x))", "x 1", ok("1", 1)}, {"(if t x (loop x))", "x 1", ok("1", 1)}, {"(if nil (loop x) x)", "x 1", ok("1", 1)},
		{"(if (consp x) (car x) (unknown))", "x 3", fails(api.ErrFunction, 3)}, {"(if (g x) x x)", "x 3", fails(api.ErrExecutable, 2)}, {"(if (car x) (cdr) x)", "x (1)", fails(api.ErrArity, 3)}, {"(if (id x) (cons x x) (car (car (cdr x))))", "x nil", ok("nil", 5)},
		{"(if (if x nil t) (if x '1 '2) (if x '3 '4))", "x 0", ok("3", 3)}, {"(if (if x nil t) (if x '1 '2) (if x '3 '4))", "x nil", ok("2", 3)}, {"(cons (if x '1 '2) (if (consp x) '3 '4))", "x nil", ok("(2 . 4)", 4)},
		{"(if x y)", "x 1 y 1", fails(api.ErrArity, 1)}, {"(if)", "", fails(api.ErrArity, 1)}, {"(if nil y z u)", "z 1", fails(api.ErrArity, 1)},
		{"(a::if x y x)", "x nil y 2", ok("(nil 2)", 3)}, {"(a::if x y x)", "x nil", fails(api.ErrUnbound, 1)},
	})
	for _, test := range []api.Object{circle(), {}, {Kind: api.KindCons}, {Kind: api.KindString, Sym: sym("nil")}, chain(1500)} {
		expectOutcome(t, "a test that is not valid", ofTerm(nil, call("if", constant(test), tm("'1"), tm("'2")), nil), ok("1", 1))
	}
	for i := range 2 {
		x := call("if", constant(object.Nil()), tm("'1"), constant(chain(1500)))
		if i == 0 {
			x = call("if", tm("'1"), constant(chain(1500)), tm("'1"))
		}
		expectOutcome(t, "a value that is not valid", ofTerm(nil, x, nil), gives(chain(1500), 1))
	}
}

func TestDefinedFunctions(t *testing.T) {
	expectTrials(t, []trial{
		{"(five)", "", ok("5", 1)}, {"(id x)", "x (1)", ok("(1)", 1)}, {"(id (id (id x)))", "x 1", ok("1", 3)}, {"(swap x y)", "x 1 y 2", ok("(2 . 1)", 2)}, {"(swap y x)", "x 1 y 2", ok("(1 . 2)", 2)}, {"(swap (swap '1 '2) (car x))", "x (3)", ok("(3 2 . 1)", 5)}, {"(twice (twice x))", "x 1", ok("((1 . 1) 1 . 1)", 6)},
		{"(a::id x)", "x 1", ok("(1 . 1)", 2)}, {"(a::id (id (a::id x)))", "x 1", ok("((1 . 1) 1 . 1)", 5)}, {"(last 1 2 3 4 5 6 7 '(8))", "", ok("(8)", 1)}, {"(last (id 1) 2 3 4 5 6 7 (id 8))", "", ok("8", 3)},
		{"(even x)", "x nil", ok("t", 3)}, {"(odd x)", "x nil", ok("nil", 3)}, {"(even x)", "x (1 2 3)", ok("nil", 15)}, {"(odd x)", "x (1 2 3)", ok("t", 15)}, {"(len x)", "x (a b c)", ok("3", 18)}, {"(len '(1 2 . 3))", "", ok("2", 13)}, {"(down '7)", "", ok("7", 38)}, {"(sum '10 '0)", "", ok("55", 53)},
		{"(st-get (st-put '9 x))", "x (0)", ok("9", 6)}, {"(st-put (st-get x) x)", "x (0 . 1)", ok("(0 . 1)", 6)},
		// Guards and measures are not evaluated.
		{"(guarded x)", "x 5", ok("nil", 2)}, {"(guarded x)", "x (5)", ok("5", 2)},
		// The arguments are evaluated before the call, all of them.
		{"(five x)", "x 1", fails(api.ErrArity, 1)}, {"(id y)", "x 1", fails(api.ErrUnbound, 1)}, {"(last 1 2 3 4 5 6 x 8)", "", fails(api.ErrUnbound, 1)}, {"(id (unknown))", "", fails(api.ErrFunction, 2)}, {"(swap '1 (car))", "", fails(api.ErrArity, 2)},
		{"(by-g x)", "x 1", ok("1", 3)}, {"(by-g x)", "x (1)", fails(api.ErrExecutable, 4)}, {"(swap (by-g '1) (by-g x))", "x (1)", fails(api.ErrExecutable, 8)},
	})
}

// TestErrors: of one call, the first error counts; then those of the arguments come, from left to right.
func TestErrors(t *testing.T) {
	expectTrials(t, []trial{
		{"(unknown)", "", fails(api.ErrFunction, 1)}, {"(unknown (car))", "", fails(api.ErrFunction, 1)}, {"(unknown x)", "", fails(api.ErrFunction, 1)}, {"(unknown (loop '1))", "", fails(api.ErrFunction, 1)}, {"(a::car x)", "x 1", fails(api.ErrFunction, 1)}, {"(a::five)", "", fails(api.ErrFunction, 1)}, {"(nil)", "", fails(api.ErrFunction, 1)}, {"(t)", "", fails(api.ErrFunction, 1)}, {"(x)", "x 1", fails(api.ErrFunction, 1)},
		{"(mac x)", "x 1", fails(api.ErrFunction, 1)}, {"(th)", "", fails(api.ErrFunction, 1)}, {"(th x)", "x 1", fails(api.ErrFunction, 1)}, {"(cap)", "", fails(api.ErrFunction, 1)}, {"(cap x)", "x 1", fails(api.ErrFunction, 1)}, {"(st)", "", fails(api.ErrFunction, 1)}, {"(here)", "", fails(api.ErrFunction, 1)}, {"(local x)", "x 1", fails(api.ErrFunction, 1)}, {"(a-package)", "", fails(api.ErrFunction, 1)}, {"(field x)", "x 1", fails(api.ErrFunction, 1)},
		{"(car)", "", fails(api.ErrArity, 1)}, {"(car x x)", "x 1", fails(api.ErrArity, 1)}, {"(car x y)", "", fails(api.ErrArity, 1)}, {"(cons (unknown))", "", fails(api.ErrArity, 1)}, {"(id)", "", fails(api.ErrArity, 1)}, {"(id (unknown) x)", "", fails(api.ErrArity, 1)}, {"(five (loop '1))", "", fails(api.ErrArity, 1)},
		{"(g)", "", fails(api.ErrArity, 1)}, {"(g x x)", "x 1", fails(api.ErrArity, 1)}, {"(h x)", "x 1", fails(api.ErrArity, 1)}, {"(pick)", "", fails(api.ErrArity, 1)},
		{"(g x)", "x 1", fails(api.ErrExecutable, 1)}, {"(g x)", "", fails(api.ErrExecutable, 1)}, {"(h (car) (unknown))", "", fails(api.ErrExecutable, 1)}, {"(pick y)", "y 1", fails(api.ErrExecutable, 1)}, {"(pick (loop '1))", "", fails(api.ErrExecutable, 1)},
		{"(cons x (unknown))", "", fails(api.ErrUnbound, 1)}, {"(cons (unknown) x)", "", fails(api.ErrFunction, 2)}, {"(cons (car) (unknown))", "", fails(api.ErrArity, 2)}, {"(cons (unknown) (car))", "", fails(api.ErrFunction, 2)}, {"(cons (car '1) (g '1))", "", fails(api.ErrExecutable, 3)}, {"(cons (g '1) (car '1))", "", fails(api.ErrExecutable, 2)}, {"(cons (car (car '1)) (cdr (cdr)))", "", fails(api.ErrArity, 5)},
		{"(swap (id (id y)) (unknown))", "", fails(api.ErrUnbound, 3)}, {"(id (id (id (car))))", "", fails(api.ErrArity, 4)}, {"(cons (swap '1 '2) y)", "", fails(api.ErrUnbound, 3)},
	})
	for _, n := range []int{0, 1, 2, 3} {
		expectOutcome(t, "a call of quote", ofTerm(base(), call("quote", tms("'1", "'2", "'3")[:n]...), nil), fails(api.ErrFunction, 1))
	}
	expectOutcome(t, "a call of no symbol", ofTerm(base(), api.Term{Kind: api.Call}, nil), fails(api.ErrFunction, 1))
	expectOutcome(t, "in nothing", ofTerm(nil, tm("(id '1)"), nil), fails(api.ErrFunction, 1))
	for _, f := range primitive.Names() {
		n, _ := primitive.Arity(f)
		for _, k := range []int{0, n - 1, n + 1, 9} {
			if k != n {
				expectOutcome(t, "a wrong number of arguments", ofApply(nil, f, make([]api.Object, k)), fails(api.ErrArity, 1))
			}
		}
	}
}

// TestNoLimitButTheSteps: evaluations that do not end, and some that take long.
func TestNoLimitButTheSteps(t *testing.T) {
	w := base()
	for _, s := range []string{"(loop '1)", "(sink '1)", "(if (loop '1) '1 '1)", "(cons (loop '1) (unknown))", "(swap '1 (loop '1))", "(id (sink (sink '1)))"} {
		x := tm(s)
		for _, limit := range []int{-5, 0, 1, 2, 3, 500, api.MaxSteps, 200001} {
			value, steps, err := Term(w, x, nil, limit)
			expectFailure(t, s, value, steps, err, api.ErrSteps)
		}
	}
	expectOutcome(t, "a long list", ofTerm(w, call("len", constant(chain(1499))), nil), ok("1499", 6*1499-1499+3))
	expectOutcome(t, "the steps of one evaluation", ofTerm(w, call("down", constant(object.Int(3999))), nil), ok("3999", 19998))
}

func TestApply(t *testing.T) {
	w := base()
	for _, c := range []struct {
		f, args string
		want    outcome
	}{
		{"car", "(1 . 2)", ok("1", 1)}, {"cons", "x (car y)", ok("(x car y)", 1)}, {"cons", "1", fails(api.ErrArity, 1)}, {"cons", "1 2 3", fails(api.ErrArity, 1)}, {"cons", "", fails(api.ErrArity, 1)},
		{"if", "t 1 2", ok("1", 1)}, {"if", "nil 1 2", ok("2", 1)}, {"if", "nil 1", fails(api.ErrArity, 1)}, {"a::if", "nil 1 2", ok("(nil 1 . 2)", 3)},
		{"five", "", ok("5", 1)}, {"five", "1", fails(api.ErrArity, 1)}, {"swap", "1 2", ok("(2 . 1)", 2)}, {"swap", "x y", ok("(y . x)", 2)}, {"swap", "1", fails(api.ErrArity, 1)}, {"even", "(1 2)", ok("t", 11)}, {"last", "1 2 3 4 5 6 7 8", ok("8", 1)}, {"last", "1 2 3 4 5 6 7 8 9", fails(api.ErrArity, 1)}, {"guarded", "5", ok("nil", 2)},
		{"g", "1", fails(api.ErrExecutable, 1)}, {"g", "", fails(api.ErrArity, 1)}, {"pick", "1", fails(api.ErrExecutable, 1)}, {"pick", "1 2", fails(api.ErrArity, 1)}, {"by-g", "(1)", fails(api.ErrExecutable, 4)},
		{"unknown", "", fails(api.ErrFunction, 1)}, {"unknown", "1 2", fails(api.ErrFunction, 1)}, {"quote", "1", fails(api.ErrFunction, 1)}, {"mac", "1", fails(api.ErrFunction, 1)}, {"local", "1", fails(api.ErrFunction, 1)}, {"a::car", "1", fails(api.ErrFunction, 1)},
	} {
		expectOutcome(t, "Apply of "+c.f+" to "+c.args, ofApply(w, sym(c.f), objs(c.args)), c.want)
	}
	expectOutcome(t, "Apply of a constructor beyond the limit", ofApply(w, sym("twice"), []api.Object{chain(750)}), fails(api.ErrLimit, 3))
	expectOutcome(t, "Apply of no symbol", ofApply(w, api.Symbol{}, nil), fails(api.ErrFunction, 1))
}

// TestExamples has the examples of the document.
func TestExamples(t *testing.T) {
	value, steps, err := Apply(nil, sym("car"), []api.Object{object.Cons(object.Int(1), object.Int(2))}, 1)
	expectValue(t, "Apply of car", value, steps, err, ok("1", 1))
	value, steps, err = Term(nil, tm("(if t x y)"), bindings("x (a)"), math.MaxInt)
	expectValue(t, "(if t x y)", value, steps, err, ok("(a)", 1))
}
