package translate

import (
	"reflect"
	"slices"
	"strconv"
	"strings"
	"testing"

	"lispprover/api"
	"lispprover/object"
	"lispprover/printer"
	"lispprover/reader"
	"lispprover/term"
	"lispprover/world"
)

func packages() []api.Package {
	return []api.Package{{Name: "lisp"}, {Name: "a"}}
}

// objs reads objects; symbols without a package are in lisp.
func objs(s string) []api.Object {
	l, err := reader.Read(packages(), "lisp", s)
	if err.Err != api.OK {
		panic("no objects: " + s)
	}
	return l
}

func obj(s string) api.Object {
	return objs(s)[0]
}

func sym(s string) api.Symbol {
	return obj(s).Sym
}

func syms(s string) []api.Symbol {
	var l []api.Symbol
	for _, word := range strings.Fields(s) {
		l = append(l, sym(word))
	}
	return l
}

// tm reads a term as term.Quote writes it, but that constants other than symbols and conses need no quote.
func tm(s string) api.Term {
	return fromObject(obj(s))
}

func fromObject(o api.Object) api.Term {
	if o.Kind == api.KindSymbol && !object.IsNil(o) && !object.Equal(o, object.T()) {
		return api.Term{Kind: api.Variable, Name: o.Sym}
	}
	if o.Kind != api.KindCons {
		return constant(o)
	}
	if o.Pair[0].Sym == (api.Symbol{Package: "lisp", Name: "quote"}) {
		return constant(o.Pair[1].Pair[0])
	}
	t := api.Term{Kind: api.Call, Name: o.Pair[0].Sym}
	for o = o.Pair[1]; o.Kind == api.KindCons; o = o.Pair[1] {
		t.Args = append(t.Args, fromObject(o.Pair[0]))
	}
	return t
}

func constant(o api.Object) api.Term {
	return api.Term{Kind: api.Constant, Value: o}
}

func variable(name string) api.Term {
	return api.Term{Kind: api.Variable, Name: sym(name)}
}

func app(name string, args ...api.Term) api.Term {
	return api.Term{Kind: api.Call, Name: sym(name), Args: args}
}

// fun returns a function; head is its name and its parameters.
func fun(head string) api.Function {
	l := syms(head)
	return api.Function{Name: l[0], Params: l[1:], Class: api.Defined, Guard: constant(object.T()), Body: constant(object.Nil())}
}

func funs(heads ...string) []api.Function {
	var l []api.Function
	for _, h := range heads {
		l = append(l, fun(h))
	}
	return l
}

// defun returns the entry of a function; head is its name and its parameters.
func defun(head, body string) api.Entry {
	f := fun(head)
	f.Body = tm(body)
	return api.Entry{Kind: api.EntryFunctions, Name: f.Name, Functions: []api.Function{f}}
}

// defmacro returns the entry of a macro; the last parameter stands for all remaining arguments if it is written after a &.
func defmacro(head, body string) api.Entry {
	rest := strings.Contains(head, "&")
	l := syms(strings.ReplaceAll(head, "&", ""))
	return api.Entry{Kind: api.EntryMacro, Name: l[0], Macro: api.Macro{Name: l[0], Params: l[1:], Rest: rest, Body: tm(body)}}
}

// base is a valid world with functions of every class and with macros.
func base() []api.Entry {
	g, pick := fun("g x"), fun("pick y")
	g.Class, g.Body = api.Constrained, api.Term{}
	pick.Class, pick.Body = api.Choice, api.Term{}
	return []api.Entry{
		{Kind: api.EntryPackage, Name: sym("a-package"), Package: api.Package{Name: "a"}},
		defun("id x", "x"), defun("not x", "(if x nil t)"), defun("binary-append x y", "(if (consp x) (cons (car x) (binary-append (cdr x) y)) y)"), defun("five", "'5"), defun("three x y z", "x"), defun("eight p1 p2 p3 p4 p5 p6 p7 p8", "p8"),
		defun("loop x", "(loop x)"), defun("a::list x", "x"), defun("a::let x", "x"), defun("len x", "(if (consp x) (binary-+ '1 (len (cdr x))) '0)"),
		{Kind: api.EntryEncapsule, Name: sym("cap"), Functions: []api.Function{g}, Local: []api.Entry{defun("local x", "x"), defmacro("hidden x", "x")}},
		{Kind: api.EntryChoice, Name: sym("pick"), Functions: []api.Function{pick}, Formulas: []api.Term{tm("(equal y (pick y))")}},
		{Kind: api.EntryTheorem, Name: sym("th"), Formulas: []api.Term{tm("(equal x x)")}},
		{Kind: api.EntryLabel, Name: sym("here")},
		defmacro("same x", "x"), defmacro("swap x y", "(cons 'cons (cons y (cons x 'nil)))"), defmacro("zero", "'0"), defmacro("dup x", "(cons 'cons (cons x (cons x 'nil)))"),
		defmacro("all & l", "(cons 'quote (cons l 'nil))"), defmacro("first x & l", "(cons 'quote (cons (cons x l) 'nil))"), defmacro("third x y & l", "(if (consp l) (car l) x)"),
		defmacro("count-of & l", "(len l)"), defmacro("a::cond x", "x"), defmacro("let x", "'17"), defmacro("let* x y", "'18"), defmacro("list x y", "'19"), defmacro(">= & l", "'20"),
		defmacro("g-of x", "(g x)"), defmacro("spin", "(loop 'x)"), defmacro("huge x", "(string-append x x)"), defmacro("again", "'(again)"), defmacro("more x", "(cons 'more (cons (cons 'id (cons x 'nil)) 'nil))"), defmacro("m8 p1 p2 p3 p4 p5 p6 p7 p8", "(cons 'eight (cons p8 (cons p7 (cons p6 (cons p5 (cons p4 (cons p3 (cons p2 (cons p1 'nil)))))))))"),
	}
}

func expectValidWorld(t *testing.T, w []api.Entry) {
	t.Helper()
	if !world.Valid(w) {
		t.Fatal("the test needs a valid world")
	}
}

// expectExpansion expects an expansion and true.
func expectExpansion(t *testing.T, w []api.Entry, form, want api.Object) {
	t.Helper()
	o, is, err := Expand(w, form)
	if !is || err != api.OK || !object.Equal(o, want) {
		t.Errorf("Expand of %s: %s, %v, error %d, want %s", text(form), text(o), is, err, text(want))
	}
}

// expectNoMacro expects the object itself and false.
func expectNoMacro(t *testing.T, w []api.Entry, form api.Object) {
	t.Helper()
	o, is, err := Expand(w, form)
	if is || err != api.OK || !object.Equal(o, form) {
		t.Errorf("Expand of %s: %s, %v, error %d, want the object itself", text(form), text(o), is, err)
	}
}

// expectExpandError expects an error, and zero values beside it.
func expectExpandError(t *testing.T, w []api.Entry, form api.Object, want api.Errno) {
	t.Helper()
	o, is, err := Expand(w, form)
	if is || err != want || !reflect.ValueOf(o).IsZero() {
		t.Errorf("Expand of %s: %s, %v, error %d, want the error %d alone", text(form), text(o), is, err, want)
	}
}

func expectTerm(t *testing.T, w []api.Entry, extra []api.Function, form api.Object, want api.Term) {
	t.Helper()
	x, err := Term(w, extra, form)
	if err != api.OK || !term.Equal(x, want) {
		t.Errorf("Term of %s: %s, error %d, want %s", text(form), textOf(x), err, textOf(want))
	}
	if err == api.OK && !term.Valid(x) {
		t.Errorf("Term of %s is not valid", text(form))
	}
}

// expectTermError expects an error, and the zero term beside it.
func expectTermError(t *testing.T, w []api.Entry, extra []api.Function, form api.Object, want api.Errno) {
	t.Helper()
	x, err := Term(w, extra, form)
	if err != want || !reflect.ValueOf(x).IsZero() {
		t.Errorf("Term of %s: %s, error %d, want the error %d alone", text(form), textOf(x), err, want)
	}
}

// pair is a form, and what is expected of it.
type pair struct{ form, want string }

func expectTerms(t *testing.T, l []pair) {
	t.Helper()
	for _, c := range l {
		expectTerm(t, base(), nil, obj(c.form), tm(c.want))
	}
}

// failure is a form, and the error that is expected.
type failure struct {
	form string
	want api.Errno
}

func expectTermErrors(t *testing.T, l []failure) {
	t.Helper()
	for _, c := range l {
		expectTermError(t, base(), nil, obj(c.form), c.want)
	}
}

// text prints an object, if it can be printed; a long text is cut.
func text(o api.Object) string {
	if !object.Valid(o) {
		return "an object that is not valid"
	}
	s, err := printer.Print(packages(), "lisp", o)
	if err != api.OK {
		return "an object, error " + strconv.Itoa(int(err))
	}
	return s[:min(len(s), 300)]
}

func textOf(t api.Term) string {
	if !term.Valid(t) {
		return "a term that is not valid"
	}
	return text(term.Quote(t))
}

// repeat returns the list (head item .. item tail ..) with n items.
func repeat(head string, n int, item api.Object, tail ...api.Object) api.Object {
	items := append([]api.Object{obj(head)}, slices.Repeat([]api.Object{item}, n)...)
	return object.List(append(items, tail...)...)
}

// nest returns (f (f .. x)) with n calls.
func nest(name string, n int, x api.Object) api.Object {
	f := obj(name)
	for range n {
		x = object.List(f, x)
	}
	return x
}

// nestedCalls returns the term (f (f .. x)) with n calls.
func nestedCalls(name string, n int, x api.Term) api.Term {
	f := sym(name)
	for range n {
		x = api.Term{Kind: api.Call, Name: f, Args: []api.Term{x}}
	}
	return x
}

// spend returns a form that stands for nil and counts as n expansions.
func spend(n int) api.Object {
	return listOf("let*", object.List(slices.Repeat([]api.Object{obj("(v v)")}, n)...), object.Nil())
}

// listOf returns the list of a symbol and of these forms.
func listOf(name string, forms ...api.Object) api.Object {
	return object.Cons(obj(name), object.List(forms...))
}

// circle returns a list without an end.
func circle() api.Object {
	o := object.Cons(object.Int(1), object.Nil())
	o.Pair[1] = o
	return o
}

// within returns the form s that contains itself in the places of **.
func within(s string) api.Object {
	o := obj(s)
	tie(o, o)
	return o
}

// tie puts by in the places of ** in o.
func tie(o, by api.Object) {
	for i := range o.Pair {
		if object.Equal(o.Pair[i], obj("**")) {
			o.Pair[i] = by
		} else {
			tie(o.Pair[i], by)
		}
	}
}

// double returns a form of n levels, each of which has the one below twice, in the places of ** in s.
func double(s string, n int, x api.Object) api.Object {
	for range n {
		o := obj(s)
		tie(o, x)
		x = o
	}
	return x
}

// chain returns a list of n elements.
func chain(n int) api.Object {
	o := object.Nil()
	for range n {
		o = object.Cons(object.Int(1), o)
	}
	return o
}
