package world

import (
	"math/rand"
	"reflect"
	"strings"
	"testing"

	"lispprover/api"
	"lispprover/object"
	"lispprover/reader"
	"lispprover/term"
)

func packages() []api.Package {
	return []api.Package{{Name: "lisp"}, {Name: "a"}, {Name: "b"}, {Name: "z"}}
}

// obj reads an object; symbols without a package are in lisp.
func obj(s string) api.Object {
	o, err := reader.One(packages(), "lisp", s)
	if err.Err != api.OK {
		panic("no object: " + s)
	}
	return o
}

func sym(s string) api.Symbol {
	return obj(s).Sym
}

func syms(s string) []api.Symbol {
	var l []api.Symbol
	for _, word := range strings.Fields(s) {
		l = append(l, sym(word))
	}
	return l
}

// tm reads a term: symbols are variables, lists are calls, everything else is a constant, what is quoted, too. The empty text stands for the zero term.
func tm(s string) api.Term {
	if s == "" {
		return api.Term{}
	}
	return fromObject(obj(s))
}

func tms(l ...string) []api.Term {
	var r []api.Term
	for _, s := range l {
		r = append(r, tm(s))
	}
	return r
}

func fromObject(o api.Object) api.Term {
	if o.Kind == api.KindSymbol && o.Sym != (api.Symbol{Package: "lisp", Name: "nil"}) && o.Sym != (api.Symbol{Package: "lisp", Name: "t"}) {
		return api.Term{Kind: api.Variable, Name: o.Sym}
	}
	if o.Kind != api.KindCons {
		return api.Term{Kind: api.Constant, Value: o}
	}
	if o.Pair[0].Sym == (api.Symbol{Package: "lisp", Name: "quote"}) {
		return api.Term{Kind: api.Constant, Value: o.Pair[1].Pair[0]}
	}
	t := api.Term{Kind: api.Call, Name: o.Pair[0].Sym}
	for o = o.Pair[1]; o.Kind == api.KindCons; o = o.Pair[1] {
		t.Args = append(t.Args, fromObject(o.Pair[0]))
	}
	return t
}

func call(name string, args ...api.Term) api.Term {
	return api.Term{Kind: api.Call, Name: sym(name), Args: args}
}

// fun returns a function: head is its name and its parameters.
func fun(class int, head, guard, body, measure string) api.Function {
	l := syms(head)
	return api.Function{Name: l[0], Params: l[1:], Class: class, Guard: tm(guard), Body: tm(body), Measure: tm(measure)}
}

func defined(head, body string) api.Function {
	return fun(api.Defined, head, "t", body, "")
}

func constrained(head string) api.Function {
	return fun(api.Constrained, head, "t", "", "")
}

func functions(l ...api.Function) api.Entry {
	return api.Entry{Kind: api.EntryFunctions, Name: l[0].Name, Functions: l}
}

// defun returns the entry of one defined function.
func defun(head, body string) api.Entry {
	return functions(defined(head, body))
}

func label(name string) api.Entry {
	return api.Entry{Kind: api.EntryLabel, Name: sym(name)}
}

func pack(name string, imports string) api.Entry {
	return api.Entry{Kind: api.EntryPackage, Name: sym(name + "-package"), Package: api.Package{Name: name, Imports: syms(imports)}}
}

func macro(head, body string) api.Entry {
	l := syms(head)
	return api.Entry{Kind: api.EntryMacro, Name: l[0], Macro: api.Macro{Name: l[0], Params: l[1:], Body: tm(body)}}
}

func theorem(name, formula string) api.Entry {
	return api.Entry{Kind: api.EntryTheorem, Name: sym(name), Formulas: tms(formula)}
}

func encapsule(name string, heads []string, formulas ...string) api.Entry {
	e := api.Entry{Kind: api.EntryEncapsule, Name: sym(name), Formulas: tms(formulas...)}
	for _, head := range heads {
		e.Functions = append(e.Functions, constrained(head))
	}
	return e
}

func choice(head, formula string) api.Entry {
	f := fun(api.Choice, head, "t", "", "")
	return api.Entry{Kind: api.EntryChoice, Name: f.Name, Functions: []api.Function{f}, Formulas: tms(formula)}
}

func stobj(name string, l ...api.Function) api.Entry {
	return api.Entry{Kind: api.EntryStobj, Name: sym(name), Functions: l, Stobj: api.Stobj{Name: sym(name), Fields: []api.Field{{Name: sym("field"), Initial: obj("0")}}}}
}

// base is a valid world with an entry of every kind.
func base() []api.Entry {
	return []api.Entry{
		defun("id x", "x"),
		pack("a", "car"),
		functions(defined("even x", "(if (consp x) (odd (cdr x)) t)"), defined("odd x", "(if (consp x) (even (cdr x)) nil)")),
		macro("mac x", "(cons x (id x))"),
		encapsule("cap", []string{"g x", "h x y"}, "(integerp (g x))", "(equal (h x y) (g x))"),
		choice("pick y", "(equal y (pick y))"),
		stobj("st", defined("st-get st", "(car st)"), defined("st-put v st", "(cons v (cdr (id st)))")),
		theorem("th", "(equal (g (id x)) (g x))"),
		{Kind: api.EntryTheory, Name: sym("off"), Disabled: syms("th id")},
		{Kind: api.EntryBook, Name: sym("book"), Text: "b", Hash: 7},
		label("here"),
	}
}

func expectValid(t *testing.T, w []api.Entry) {
	t.Helper()
	if !Valid(w) {
		t.Fatal("the test needs a valid world")
	}
}

func expectErr(t *testing.T, what string, got, want api.Errno) {
	t.Helper()
	if got != want {
		t.Errorf("%s: error %d, want %d", what, got, want)
	}
}

func expectIndex(t *testing.T, what string, got int, is bool, want int) {
	t.Helper()
	if got != want || !is {
		t.Errorf("%s: %d, %v, want %d", what, got, is, want)
	}
}

// expectNone expects false, and a zero value beside it.
func expectNone[T any](t *testing.T, what string, got T, is bool) {
	t.Helper()
	if is || !reflect.ValueOf(got).IsZero() {
		t.Errorf("%s: %v, %v, want none", what, got, is)
	}
}

func expectBool(t *testing.T, what string, got, want bool) {
	t.Helper()
	if got != want {
		t.Errorf("%s: %v, want %v", what, got, want)
	}
}

func expectSyms(t *testing.T, what string, got, want []api.Symbol) {
	t.Helper()
	if !sameList(got, want) {
		t.Errorf("%s: %v, want %v", what, got, want)
	}
}

// sameList reports whether two lists are equal, where an empty list is as good as none.
func sameList[T any](a, b []T) bool {
	return len(a) == len(b) && (len(a) == 0 || reflect.DeepEqual(a, b))
}

// nest returns the term (f (f .. x)) with n calls; its depth is n + 1.
func nest(name string, n int, x api.Term) api.Term {
	for range n {
		x = call(name, x)
	}
	return x
}

// double returns a term of n levels of calls whose two arguments are equal to each other; it has far more nodes than memory.
func double(name string, n int, x api.Term) api.Term {
	for range n {
		x = call(name, x, x)
	}
	return x
}

// endless returns a term that contains itself after n levels.
func endless(name string, n int) api.Term {
	first := call(name, tm("'1"), tm("x"))
	t := first
	for range n - 1 {
		t = call(name, tm("'1"), t)
	}
	first.Args[1] = t
	return t
}

// branching returns a call all of whose n arguments are the call itself.
func branching(name string, n int) api.Term {
	t := call(name, make([]api.Term, n)...)
	for i := range t.Args {
		t.Args[i] = t
	}
	return t
}

// circle returns a list without an end.
func circle() api.Object {
	o := object.Cons(object.Int(1), object.Nil())
	o.Pair[1] = o
	return o
}

// wide returns a valid term with so many nodes, an odd number.
func wide(nodes int) api.Term {
	o := object.Nil()
	for range nodes / 2 {
		o = object.Cons(object.Int(1), o)
	}
	return term.Const(o)
}

// long returns a name of n bytes.
func long(n int) string {
	return strings.Repeat("n", n)
}

// pick returns one of these.
func pick[T any](r *rand.Rand, l []T) T {
	return l[r.Intn(len(l))]
}
