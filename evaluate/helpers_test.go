package evaluate

import (
	"math"
	"math/rand"
	"reflect"
	"strconv"
	"strings"
	"testing"

	"lispprover/api"
	"lispprover/object"
	"lispprover/printer"
	"lispprover/reader"
	"lispprover/world"
)

func packages() []api.Package {
	return []api.Package{{Name: "lisp"}, {Name: "a"}}
}

// objs reads objects; symbols without a package are in lisp.
func objs(s string) []api.Object {
	l, err := reader.Read(packages(), "lisp", s)
	if err.Err != api.OK {
		panic("no objects: " + s)
	}
	return l
}

func obj(s string) api.Object {
	return objs(s)[0]
}

func sym(s string) api.Symbol {
	return obj(s).Sym
}

func syms(s string) []api.Symbol {
	var l []api.Symbol
	for _, word := range strings.Fields(s) {
		l = append(l, sym(word))
	}
	return l
}

// tm reads a term: symbols are variables, lists are calls, everything else is a constant, what is quoted, too. The empty text stands for the zero term.
func tm(s string) api.Term {
	if s == "" {
		return api.Term{}
	}
	return fromObject(obj(s))
}

func tms(l ...string) []api.Term {
	var r []api.Term
	for _, s := range l {
		r = append(r, tm(s))
	}
	return r
}

func fromObject(o api.Object) api.Term {
	if o.Kind == api.KindSymbol && !object.IsNil(o) && !object.Equal(o, object.T()) {
		return api.Term{Kind: api.Variable, Name: o.Sym}
	}
	if o.Kind != api.KindCons {
		return api.Term{Kind: api.Constant, Value: o}
	}
	if o.Pair[0].Sym == (api.Symbol{Package: "lisp", Name: "quote"}) {
		return constant(o.Pair[1].Pair[0])
	}
	t := api.Term{Kind: api.Call, Name: o.Pair[0].Sym}
	for o = o.Pair[1]; o.Kind == api.KindCons; o = o.Pair[1] {
		t.Args = append(t.Args, fromObject(o.Pair[0]))
	}
	return t
}

func constant(o api.Object) api.Term {
	return api.Term{Kind: api.Constant, Value: o}
}

func constants(l []api.Object) []api.Term {
	var r []api.Term
	for _, o := range l {
		r = append(r, constant(o))
	}
	return r
}

func call(name string, args ...api.Term) api.Term {
	return api.Term{Kind: api.Call, Name: sym(name), Args: args}
}

// bindings reads variables and objects by turns.
func bindings(s string) []api.Binding {
	var env []api.Binding
	l := objs(s)
	for i := 0; i < len(l); i += 2 {
		env = append(env, api.Binding{Var: l[i].Sym, Value: l[i+1]})
	}
	return env
}

// fun returns a function: head is its name and its parameters.
func fun(class int, head, guard, body, measure string) api.Function {
	l := syms(head)
	return api.Function{Name: l[0], Params: l[1:], Class: class, Guard: tm(guard), Body: tm(body), Measure: tm(measure)}
}

func defined(head, body string) api.Function {
	return fun(api.Defined, head, "t", body, "")
}

func functions(l ...api.Function) api.Entry {
	return api.Entry{Kind: api.EntryFunctions, Name: l[0].Name, Functions: l}
}

// defun returns the entry of one defined function.
func defun(head, body string) api.Entry {
	return functions(defined(head, body))
}

// base is a valid world with functions of every class, and with names that are no functions.
func base() []api.Entry {
	g, h, pick := fun(api.Constrained, "g x", "t", "", ""), fun(api.Constrained, "h x y", "t", "", ""), fun(api.Choice, "pick y", "t", "", "")
	field := []api.Field{{Name: sym("field"), Initial: obj("0")}}
	return []api.Entry{
		defun("id x", "x"),
		{Kind: api.EntryPackage, Name: sym("a-package"), Package: api.Package{Name: "a"}},
		functions(defined("even x", "(if (consp x) (odd (cdr x)) t)"), defined("odd x", "(if (consp x) (even (cdr x)) nil)")),
		{Kind: api.EntryMacro, Name: sym("mac"), Macro: api.Macro{Name: sym("mac"), Params: syms("x"), Body: tm("x")}},
		{Kind: api.EntryEncapsule, Name: sym("cap"), Functions: []api.Function{g, h}, Formulas: tms("(integerp (g x))"), Local: []api.Entry{defun("g x", "'5"), defun("local x", "x")}},
		{Kind: api.EntryChoice, Name: sym("pick"), Functions: []api.Function{pick}, Formulas: tms("(equal y (pick y))")},
		{Kind: api.EntryStobj, Name: sym("st"), Stobj: api.Stobj{Name: sym("st"), Fields: field}, Functions: []api.Function{defined("st-get st", "(car st)"), defined("st-put v st", "(cons v (cdr (id st)))")}},
		{Kind: api.EntryTheorem, Name: sym("th"), Formulas: tms("(equal (g (id x)) (g x))")},
		{Kind: api.EntryLabel, Name: sym("here")},
		defun("five", "'5"), defun("swap x y", "(cons y x)"), defun("twice x", "(swap x x)"), defun("len x", "(if (consp x) (binary-+ '1 (len (cdr x))) '0)"),
		defun("down n", "(if (< n '1) '0 (binary-+ '1 (down (binary-+ n '-1))))"), defun("sum n s", "(if (< n '1) s (sum (binary-+ n '-1) (binary-+ n s)))"), defun("loop x", "(loop x)"), defun("sink x", "(cons x (sink x))"),
		functions(fun(api.Defined, "guarded x", "(g x)", "(car x)", "(pick x)")), defun("by-g x", "(if (consp x) (g x) x)"), defun("a::id x", "(cons x x)"), defun("a::if x y z", "(cons x (cons y z))"),
		defun("last p1 p2 p3 p4 p5 p6 p7 p8", "p8"),
	}
}

func expectValid(t *testing.T, w []api.Entry) {
	t.Helper()
	if !world.Valid(w) {
		t.Fatal("the test needs a valid world")
	}
}

// outcome is how an evaluation ends if there are enough steps: with a value after so many steps, or with an error before a further step begins.
type outcome struct {
	value api.Object
	steps int
	err   api.Errno
}

// gives is the outcome of an evaluation with a value.
func gives(value api.Object, steps int) outcome {
	return outcome{value: value, steps: steps}
}

func ok(value string, steps int) outcome {
	return gives(obj(value), steps)
}

// fails is the outcome of an evaluation that ends with an error after so many steps have begun.
func fails(err api.Errno, steps int) outcome {
	return outcome{err: err, steps: steps}
}

// evaluation is Term or Apply for some arguments.
type evaluation func(steps int) (api.Object, int, api.Errno)

func ofTerm(w []api.Entry, x api.Term, env []api.Binding) evaluation {
	return func(steps int) (api.Object, int, api.Errno) { return Term(w, x, env, steps) }
}

func ofApply(w []api.Entry, f api.Symbol, args []api.Object) evaluation {
	return func(steps int) (api.Object, int, api.Errno) { return Apply(w, f, args, steps) }
}

// limits are numbers of steps, among them those next to n.
func limits(n int) []int {
	l := []int{math.MinInt, math.MinInt + 1, -20000, math.MaxInt32, math.MaxInt - 1, math.MaxInt}
	for i := -2; i <= min(n+3, 40); i++ {
		l = append(l, i)
	}
	return append(l, n-2, n-1, n, n+1, n+2, 2*n)
}

// expectOutcome tries all limits that matter: the outcome is the same for all that are large enough, and ErrSteps for the others.
func expectOutcome(t *testing.T, what string, f evaluation, want outcome) {
	t.Helper()
	for _, limit := range limits(want.steps) {
		value, steps, err := f(limit)
		// No step is taken where none is needed, however small the limit is.
		if want.steps > 0 && limit < want.steps {
			expectFailure(t, what, value, steps, err, api.ErrSteps)
		} else if want.err != api.OK {
			expectFailure(t, what, value, steps, err, want.err)
		} else {
			expectValue(t, what, value, steps, err, want)
		}
	}
}

func expectValue(t *testing.T, what string, value api.Object, steps int, err api.Errno, want outcome) {
	t.Helper()
	if err != api.OK || steps != want.steps || !object.Equal(value, want.value) {
		t.Errorf("%s: %s after %d steps, error %d, want %s after %d", what, text(value), steps, err, text(want.value), want.steps)
	}
}

// expectFailure expects an error, and zero values beside it.
func expectFailure(t *testing.T, what string, value api.Object, steps int, err, want api.Errno) {
	t.Helper()
	if err != want || steps != 0 || !reflect.ValueOf(value).IsZero() {
		t.Errorf("%s: %s after %d steps, error %d, want the error %d alone", what, text(value), steps, err, want)
	}
}

// text prints an object, if it can be printed.
func text(o api.Object) string {
	if !object.Valid(o) {
		return "an object that is not valid"
	}
	s, err := printer.Print(packages(), "lisp", o)
	if err != api.OK {
		return "an object of the kind " + strconv.Itoa(o.Kind)
	}
	return s
}

// nest returns the term (f (f .. x)) with n calls.
func nest(name string, n int, x api.Term) api.Term {
	f := sym(name)
	for range n {
		x = api.Term{Kind: api.Call, Name: f, Args: []api.Term{x}}
	}
	return x
}

// double returns a term of n levels of calls whose two arguments are equal to each other; it has far more nodes than memory.
func double(name string, n int, x api.Term) api.Term {
	for range n {
		x = call(name, x, x)
	}
	return x
}

// endless returns a term that contains itself after n levels.
func endless(name string, n int) api.Term {
	first := call(name, tm("'1"), tm("x"))
	t := first
	for range n - 1 {
		t = call(name, tm("'1"), t)
	}
	first.Args[1] = t
	return t
}

// branching returns a call all of whose n arguments are the call itself.
func branching(name string, n int) api.Term {
	t := call(name, make([]api.Term, n)...)
	for i := range t.Args {
		t.Args[i] = t
	}
	return t
}

// circle returns a list without an end.
func circle() api.Object {
	o := object.Cons(object.Int(1), object.Nil())
	o.Pair[1] = o
	return o
}

// chain returns a list of n elements.
func chain(n int) api.Object {
	o := object.Nil()
	for range n {
		o = object.Cons(object.Int(1), o)
	}
	return o
}

// pick returns one of these.
func pick[T any](r *rand.Rand, l []T) T {
	return l[r.Intn(len(l))]
}
