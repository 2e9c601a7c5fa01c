package world

import (
	"slices"
	"strconv"
	"strings"
	"testing"

	"lispprover/api"
	"lispprover/primitive"
	"lispprover/term"
)

// trial is a world, and an entry that is to be added to it.
type trial struct {
	w []api.Entry
	e api.Entry
}

// flaw spoils a trial.
type flaw struct {
	what  string
	want  api.Errno
	spoil func(c *trial)
}

// expectFlaws has the flaws in the order of the document: of any two, the first one counts. The entry is added to base.
func expectFlaws(t *testing.T, make func() api.Entry, flaws []flaw) {
	t.Helper()
	w := base()
	expectErr(t, "no flaw", Check(w, make()), api.OK)
	for i, first := range flaws {
		c := trial{w, make()}
		first.spoil(&c)
		expectErr(t, first.what, Check(c.w, c.e), first.want)
		for _, second := range flaws[i+1:] {
			c := trial{w, make()}
			second.spoil(&c)
			first.spoil(&c)
			expectErr(t, first.what+" and "+second.what, Check(c.w, c.e), first.want)
		}
	}
}

// filled returns w with labels up to the allowed number of entries.
func filled(w []api.Entry) []api.Entry {
	w = slices.Clone(w)
	for len(w) < api.MaxEntries {
		w = append(w, label("fill-"+strconv.Itoa(len(w))))
	}
	return w
}

// commonFlaws are those of all entries; foreign puts something into a field that the kind does not use.
func commonFlaws(foreign func(e *api.Entry)) []flaw {
	l := []flaw{{"a full world", api.ErrLimit, func(c *trial) { c.w = filled(c.w) }}}
	for _, kind := range []int{0, 11, -1, 1 << 40} {
		l = append(l, flaw{"a kind", api.ErrKind, func(c *trial) { c.e.Kind = kind }})
	}
	for _, name := range []api.Symbol{{}, {Package: "A", Name: "x"}, {Package: "lisp"}, {Name: "x"}, {Package: "lisp", Name: long(api.MaxName + 1)}} {
		l = append(l, flaw{"an invalid name", api.ErrName, func(c *trial) { c.e.Name = name }})
	}
	for _, name := range append(syms("quote nil t id a-package odd even mac cap g h pick st st-get th off book here"), primitive.Names()[3:6]...) {
		l = append(l, flaw{"a name that is taken", api.ErrDuplicate, func(c *trial) { c.e.Name = name }})
	}
	return append(l, flaw{"a foreign field", api.ErrForm, func(c *trial) { foreign(&c.e) }})
}

func foreignHash(e *api.Entry) { e.Hash = 1 }

// termFlaws are those of a term.
func termFlaws(what string, set func(c *trial, t api.Term)) []flaw {
	var l []flaw
	for _, c := range []struct {
		t    api.Term
		want api.Errno
	}{
		{api.Term{Kind: 4}, api.ErrForm}, {call("unknown", api.Term{}, tm("w")), api.ErrForm}, {nest("car", api.MaxDepth, tm("x")), api.ErrForm}, {wide(api.MaxNodes + 1), api.ErrForm}, {tm("(unknown w)"), api.ErrFunction}, {tm("(cons (unknown) (car w w))"), api.ErrFunction},
		{tm("(mac w)"), api.ErrFunction}, {tm("(car w w)"), api.ErrArity}, {tm("(cons (car w w) (unknown))"), api.ErrArity}, {tm("(cons x (id))"), api.ErrArity},
	} {
		l = append(l, flaw{what, c.want, func(x *trial) { set(x, c.t) }})
	}
	return l
}

// closedFlaws are those of a term whose variables must be parameters.
func closedFlaws(what string, set func(c *trial, t api.Term)) []flaw {
	l := termFlaws(what, set)
	for _, s := range []string{"w", "(car w)", "(cons x (cons w x))", "(car a::x)"} {
		l = append(l, flaw{what + " with a free variable", api.ErrUnbound, func(x *trial) { set(x, tm(s)) }})
	}
	return l
}

// paramFlaws are those of the parameters x, y and z.
func paramFlaws(of func(c *trial) *[]api.Symbol) []flaw {
	l := []flaw{{"too many parameters", api.ErrLimit, func(c *trial) { *of(c) = syms("x y z p1 p2 p3 p4 p5 p6") }}}
	put := func(i int, s api.Symbol, want api.Errno) {
		l = append(l, flaw{"parameter " + strconv.Itoa(i) + " " + s.Name, want, func(c *trial) {
			params := syms("x y z")
			params[i] = s
			*of(c) = params
		}})
	}
	for _, s := range []api.Symbol{{}, {Package: "A", Name: "x"}, {Package: "lisp", Name: long(api.MaxName + 1)}, sym("nil"), sym("t"), sym("?x"), sym("?"), sym("a::?x")} {
		put(0, s, api.ErrName)
	}
	put(1, sym("?y"), api.ErrName)
	put(1, sym("x"), api.ErrDuplicate)
	put(2, sym("t"), api.ErrName)
	put(2, sym("x"), api.ErrDuplicate)
	put(2, sym("y"), api.ErrDuplicate)
	return l
}

// headFlaws are those of the name, the class and the parameters of function i.
func headFlaws(i, class int) []flaw {
	var l []flaw
	rename := func(name api.Symbol, want api.Errno) {
		l = append(l, flaw{"function " + strconv.Itoa(i) + " " + name.Name, want, func(c *trial) { c.e.Functions[i].Name = name }})
	}
	for _, name := range []api.Symbol{{}, {Package: "A", Name: "x"}, {Package: "lisp", Name: long(api.MaxName + 1)}} {
		rename(name, api.ErrName)
	}
	for _, name := range syms("quote nil t if car id odd mac cap h pick st st-put th off book here a-package") {
		rename(name, api.ErrDuplicate)
	}
	if i > 0 {
		rename(sym("p"), api.ErrDuplicate)
	}
	for _, other := range []int{0, 4, -1, api.Defined, api.Constrained, api.Choice} {
		if other != class {
			l = append(l, flaw{"a class", api.ErrKind, func(c *trial) { c.e.Functions[i].Class = other }})
		}
	}
	return append(l, paramFlaws(func(c *trial) *[]api.Symbol { return &c.e.Functions[i].Params })...)
}

// partFlaws are those of the terms of function i.
func partFlaws(i, class int) []flaw {
	guard := func(c *trial, t api.Term) { c.e.Functions[i].Guard = t }
	body := func(c *trial, t api.Term) { c.e.Functions[i].Body = t }
	measure := func(c *trial, t api.Term) { c.e.Functions[i].Measure = t }
	zero := []flaw{{"no guard", api.ErrForm, func(c *trial) { guard(c, api.Term{}) }}, {"no body", api.ErrForm, func(c *trial) { body(c, api.Term{}) }}}
	if class == api.Defined {
		return slices.Concat(zero[:1], closedFlaws("guard", guard), zero[1:], closedFlaws("body", body), closedFlaws("measure", measure))
	}
	l := slices.Concat(zero[:1], closedFlaws("guard", guard))
	for _, t := range append(tms("x", "'1", "(id x)", "(unknown w)"), api.Term{Kind: 5}, api.Term{Name: sym("x")}, api.Term{Value: obj("1")}, api.Term{Args: tms("x")}) {
		l = append(l, flaw{"a body that is not used", api.ErrForm, func(c *trial) { body(c, t) }}, flaw{"a measure that is not used", api.ErrForm, func(c *trial) { measure(c, t) }})
	}
	return l
}

// functionFlaws are those of the first n functions.
func functionFlaws(n, class int) []flaw {
	var l []flaw
	for i := range n {
		l = append(l, headFlaws(i, class)...)
	}
	for i := range n {
		l = append(l, partFlaws(i, class)...)
	}
	return l
}

func countFlaw(want api.Errno, n int, f func(i int) api.Function) flaw {
	return flaw{strconv.Itoa(n) + " functions", want, func(c *trial) {
		c.e.Functions = nil
		for i := range n {
			c.e.Functions = append(c.e.Functions, f(i))
		}
	}}
}

func numbered(class int) func(i int) api.Function {
	return func(i int) api.Function {
		body := ""
		if class == api.Defined {
			body = "x"
		}
		return fun(class, "many-"+strconv.Itoa(i)+" x", "t", body, "")
	}
}

func formulaFlaws() []flaw {
	l := []flaw{{"too many formulas", api.ErrLimit, func(c *trial) { c.e.Formulas = slices.Repeat(tms("x"), api.MaxFormula+1) }}}
	for i := range 2 {
		set := func(c *trial, t api.Term) {
			c.e.Formulas = slices.Clone(c.e.Formulas)
			c.e.Formulas[i] = t
		}
		l = append(l, flaw{"no formula", api.ErrForm, func(c *trial) { set(c, api.Term{}) }})
		l = append(l, termFlaws("formula", set)...)
	}
	return l
}

func renamed(name string) flaw {
	return flaw{"the name " + name, api.ErrName, func(c *trial) { c.e.Name = sym(name) }}
}

func TestCheckPackage(t *testing.T) {
	imports := func(what string, want api.Errno, l ...api.Symbol) flaw {
		return flaw{what, want, func(c *trial) { c.e.Package.Imports = l }}
	}
	named := func(name string, want api.Errno) flaw {
		return flaw{"the package " + name, want, func(c *trial) { c.e.Package.Name = name }}
	}
	many := make([]api.Symbol, api.MaxImports+1)
	for i := range many {
		many[i] = sym("import-" + strconv.Itoa(i))
	}
	l := slices.Concat(commonFlaws(foreignHash), []flaw{
		named("", api.ErrName), named("B", api.ErrName), named("1", api.ErrName), named("lisp", api.ErrDuplicate), named("a", api.ErrDuplicate),
		imports("too many imports", api.ErrLimit, many...), imports("a bad import", api.ErrName, api.Symbol{Package: "lisp"}),
		imports("an unknown package", api.ErrPackage, api.Symbol{Package: "c", Name: "x"}), imports("a symbol that is not at home", api.ErrPackage, sym("a::car")), imports("two imports of the same name", api.ErrDuplicate, sym("id"), sym("a::id")),
		renamed("b"), renamed("a::b-package"), renamed("c-package"), renamed("bb-package"), renamed("b-package2"), renamed("bpackage"),
	})
	expectFlaws(t, func() api.Entry { return pack("b", "car id a::x") }, l)
	expectErr(t, "as many imports as are allowed", Check(base(), api.Entry{Kind: api.EntryPackage, Name: sym("b-package"), Package: api.Package{Name: "b", Imports: many[1:]}}), api.OK)
	for n, want := range map[int]api.Errno{32: api.OK, 33: api.ErrName} {
		e := api.Entry{Kind: api.EntryPackage, Name: api.Symbol{Package: "lisp", Name: long(n) + "-package"}, Package: api.Package{Name: long(n)}}
		expectErr(t, "a long name", Check(nil, e), want)
	}
	expectErr(t, "the name of another package", Check(nil, pack("lisp", "")), api.ErrDuplicate)
	w := []api.Entry{pack("b", "car"), pack("b", "cdr")}
	expectErr(t, "the first package of a name counts", Check(w, pack("c", "b::cdr")), api.OK)
	expectErr(t, "an import that is not at home in it", Check(w, pack("c", "b::car")), api.ErrPackage)
}

func TestCheckMacro(t *testing.T) {
	l := slices.Concat(commonFlaws(foreignHash), []flaw{
		{"another name", api.ErrName, func(c *trial) { c.e.Macro.Name = sym("other") }}, {"no name", api.ErrName, func(c *trial) { c.e.Macro.Name = api.Symbol{} }}, {"the other name", api.ErrName, func(c *trial) { c.e.Name = sym("a::m") }},
	}, paramFlaws(func(c *trial) *[]api.Symbol { return &c.e.Macro.Params }), []flaw{
		{"a rest of nothing", api.ErrForm, func(c *trial) { c.e.Macro.Rest, c.e.Macro.Params = true, nil }},
		{"no body", api.ErrForm, func(c *trial) { c.e.Macro.Body = api.Term{} }},
	}, closedFlaws("body", func(c *trial, t api.Term) { c.e.Macro.Body = t }))
	expectFlaws(t, func() api.Entry { return macro("m x y z", "(cons x (id y))") }, l)
	for _, c := range []struct {
		head, body string
		rest       bool
		want       api.Errno
	}{
		{"m", "'1", false, api.OK}, {"m", "'1", true, api.ErrForm}, {"m x", "x", true, api.OK}, {"m x y", "(cons y x)", true, api.OK}, {"m p1 p2 p3 p4 p5 p6 p7 p8", "p8", true, api.OK}, {"m p1 p2 p3 p4 p5 p6 p7 p8 p9", "p9", true, api.ErrLimit},
		{"m x", "(m x)", false, api.ErrFunction}, {"m x?", "x?", false, api.OK}, {"m a::nil m", "(cons m a::nil)", false, api.OK}, {"m x a::x", "a::x", false, api.OK}, {"m quote car", "car", false, api.OK},
	} {
		e := macro(c.head, c.body)
		e.Macro.Rest = c.rest
		expectErr(t, c.head, Check(base(), e), c.want)
	}
}

func TestCheckDefinitions(t *testing.T) {
	make := func() api.Entry {
		return functions(fun(api.Defined, "p x y z", "(q x x z)", "(q x (p y y z) z)", "(id (q x x x))"), fun(api.Defined, "q x y z", "(consp y)", "(p x y (g z))", "(p y y y)"))
	}
	l := slices.Concat(commonFlaws(foreignHash), []flaw{countFlaw(api.ErrLimit, 0, numbered(api.Defined)), countFlaw(api.ErrLimit, api.MaxClique+1, numbered(api.Defined))}, functionFlaws(2, api.Defined), []flaw{renamed("q"), renamed("a::p"), renamed("other")})
	expectFlaws(t, make, l)
	without := make()
	without.Functions[0].Measure = api.Term{}
	without.Functions[1].Measure = api.Term{Args: []api.Term{}}
	expectErr(t, "no measures", Check(base(), without), api.OK)
	most := functions(numbered(api.Defined)(0), numbered(api.Defined)(1), numbered(api.Defined)(2), numbered(api.Defined)(3))
	expectErr(t, "as many functions as are allowed", Check(nil, most), api.OK)
	expectErr(t, "as many parameters as are allowed", Check(nil, defun("p p1 p2 p3 p4 p5 p6 p7 p8", "p8")), api.OK)
	expectErr(t, "no parameters", Check(nil, defun("p", "'1")), api.OK)
	expectErr(t, "a parameter with the name of the function", Check(nil, defun("p p car", "(cons p car)")), api.OK)
	expectErr(t, "a wrong number of arguments of itself", Check(nil, defun("p x", "(p x x)")), api.ErrArity)
	expectErr(t, "a call of a later function with a wrong number of arguments", Check(nil, functions(defined("p x", "(q x)"), defined("q x y", "x"))), api.ErrArity)
	expectErr(t, "the largest body", Check(nil, functions(api.Function{Name: sym("p"), Class: api.Defined, Guard: tm("t"), Body: wide(api.MaxNodes - 1)})), api.OK)
	expectErr(t, "the deepest body", Check(nil, functions(api.Function{Name: sym("p"), Params: syms("x"), Class: api.Defined, Guard: tm("t"), Body: nest("p", api.MaxDepth-1, tm("x"))})), api.OK)
}

func TestCheckTheorem(t *testing.T) {
	formulas := func(n int) flaw {
		return flaw{strconv.Itoa(n) + " formulas", api.ErrForm, func(c *trial) { c.e.Formulas = slices.Repeat(tms("x"), n) }}
	}
	make := func() api.Entry { return theorem("thm", "(equal (g x) (h y w))") }
	set := func(c *trial, t api.Term) { c.e.Formulas = []api.Term{t} }
	l := slices.Concat(commonFlaws(foreignHash), []flaw{formulas(0), formulas(2), formulas(api.MaxFormula + 1), {"no formula", api.ErrForm, func(c *trial) { set(c, api.Term{}) }}}, termFlaws("formula", set))
	expectFlaws(t, make, l)
	expectErr(t, "a call of itself", Check(nil, theorem("thm", "(thm)")), api.ErrFunction)
	e := make()
	e.Logs, e.Rules = [][]api.Line{nil, {{Rule: 99}}}, []api.Rule{{Class: 99}}
	expectErr(t, "logs and rules of any kind", Check(base(), e), api.OK)
}

func TestCheckEncapsule(t *testing.T) {
	make := func() api.Entry {
		e := encapsule("capsule", []string{"p x y z", "q x y z"}, "(equal (p x w v) (id x))", "(q w w w)", "w")
		e.Functions[0].Guard, e.Functions[1].Guard = tm("(q x x z)"), tm("(consp y)")
		return e
	}
	local := flaw{"too many local entries", api.ErrLimit, func(c *trial) { c.e.Local = slices.Repeat([]api.Entry{{}}, api.MaxEntries+1) }}
	l := slices.Concat(commonFlaws(foreignHash), []flaw{countFlaw(api.ErrLimit, 0, numbered(api.Constrained)), countFlaw(api.ErrLimit, api.MaxClique+1, numbered(api.Constrained))}, functionFlaws(2, api.Constrained), formulaFlaws(), []flaw{local})
	expectFlaws(t, make, l)
	c := trial{base(), make()}
	c.e.Local = slices.Repeat([]api.Entry{{}}, api.MaxEntries)
	expectErr(t, "as many local entries as are allowed", Check(c.w, c.e), api.OK)
	c.e.Formulas = slices.Repeat(tms("w"), api.MaxFormula)
	expectErr(t, "as many formulas as are allowed", Check(c.w, c.e), api.OK)
	expectErr(t, "no formulas", Check(nil, encapsule("capsule", []string{"p"})), api.OK)
	expectErr(t, "the name of a function", Check(nil, encapsule("p", []string{"q", "p"})), api.OK)
	expectErr(t, "as many functions as are allowed", Check(nil, encapsule("p", []string{"p", "q", "r", "s"})), api.OK)
	c.e.Functions[0].Body, c.e.Functions[0].Measure = api.Term{Args: []api.Term{}}, api.Term{Value: api.Object{Pair: []api.Object{}}}
	expectErr(t, "empty lists in zero terms", Check(c.w, c.e), api.OK)
}

func TestCheckChoice(t *testing.T) {
	make := func() api.Entry { return choice("p x y z", "(equal w (p x y w))") }
	count := func(functions, formulas int) flaw {
		return flaw{"a wrong number", api.ErrForm, func(c *trial) {
			countFlaw(0, functions, numbered(api.Choice)).spoil(c)
			c.e.Formulas = slices.Repeat(tms("x"), formulas)
		}}
	}
	set := func(c *trial, t api.Term) { c.e.Formulas = []api.Term{t} }
	l := slices.Concat(commonFlaws(foreignHash), []flaw{count(0, 0), count(0, 1), count(1, 0), count(2, 1), count(1, 2), count(2, 2), count(1, api.MaxFormula+1)}, functionFlaws(1, api.Choice), termFlaws("formula", set), []flaw{renamed("q"), renamed("a::p")})
	expectFlaws(t, make, l)
	expectErr(t, "no parameters", Check(nil, choice("p", "(p)")), api.OK)
}

func TestCheckStobj(t *testing.T) {
	make := func() api.Entry {
		return stobj("so", fun(api.Defined, "p x y z", "(q x x z)", "(q x (p y y z) z)", "(id (q x x x))"), fun(api.Defined, "q x y z", "(consp y)", "(p x y (g z))", "(p y y y)"))
	}
	l := slices.Concat(commonFlaws(foreignHash), []flaw{countFlaw(api.ErrLimit, 0, numbered(api.Defined)), countFlaw(api.ErrLimit, 41, numbered(api.Defined))}, functionFlaws(2, api.Defined), []flaw{{"another name", api.ErrName, func(c *trial) { c.e.Stobj.Name = sym("a::so") }}, renamed("p"), renamed("other")})
	expectFlaws(t, make, l)
	c := trial{base(), make()}
	countFlaw(api.OK, 40, numbered(api.Defined)).spoil(&c)
	expectErr(t, "as many functions as are allowed", Check(c.w, c.e), api.OK)
	c = trial{base(), make()}
	c.e.Stobj.Fields = []api.Field{{}, {Length: -1}, {Initial: api.Object{Kind: 9}}}
	expectErr(t, "fields of any kind", Check(c.w, c.e), api.OK)
	expectErr(t, "the name of a function", Check(nil, stobj("p", defined("p", "'1"))), api.OK)
}

func TestCheckTheory(t *testing.T) {
	make := func() api.Entry {
		return api.Entry{Kind: api.EntryTheory, Name: sym("theory"), Enabled: syms("car id quote"), Disabled: syms("th h nil mac here a-package")}
	}
	l := commonFlaws(foreignHash)
	for _, s := range []api.Symbol{sym("unknown"), sym("a::id"), sym("a::car"), sym("theory"), {}} {
		for i := range 3 {
			l = append(l, flaw{"enabled " + s.Name, api.ErrName, func(c *trial) { c.e.Enabled[i] = s }}, flaw{"disabled " + s.Name, api.ErrName, func(c *trial) { c.e.Disabled[2*i] = s }})
		}
	}
	expectFlaws(t, make, l)
	expectErr(t, "no names", Check(nil, api.Entry{Kind: api.EntryTheory, Name: sym("theory")}), api.OK)
	expectErr(t, "a name twice", Check(nil, api.Entry{Kind: api.EntryTheory, Name: sym("theory"), Enabled: syms("car car"), Disabled: syms("car")}), api.OK)
}

func TestCheckBook(t *testing.T) {
	text := func(n int) flaw {
		return flaw{strconv.Itoa(n) + " bytes", api.ErrForm, func(c *trial) { c.e.Text = strings.Repeat("\xff", n) }}
	}
	make := func() api.Entry {
		return api.Entry{Kind: api.EntryBook, Name: sym("a::novel"), Text: "x", Hash: 1 << 63}
	}
	foreign := func(e *api.Entry) { e.Formulas = tms("x") }
	expectFlaws(t, make, slices.Concat(commonFlaws(foreign), []flaw{text(0), text(api.MaxText + 1)}))
	for _, e := range []api.Entry{{Text: "x"}, {Text: "\x00"}, {Text: strings.Repeat("\xff", api.MaxText)}} {
		e.Kind, e.Name = api.EntryBook, sym("novel")
		expectErr(t, "a book", Check(nil, e), api.OK)
	}
}

func TestCheckLabel(t *testing.T) {
	expectFlaws(t, func() api.Entry { return label("there") }, commonFlaws(foreignHash))
	for _, name := range []api.Symbol{sym("x"), sym("?x"), sym("a::nil"), sym("a::car"), sym("let"), {Package: "lisp", Name: long(api.MaxName)}, {Package: "lisp", Name: "\xff \n"}, {Package: "unknown", Name: "x"}} {
		expectErr(t, "a label", Check(base(), api.Entry{Kind: api.EntryLabel, Name: name}), api.OK)
	}
	expectErr(t, "one entry less than allowed", Check(filled(nil)[1:], label("there")), api.OK)
	expectErr(t, "more entries than allowed", Check(append(filled(nil), filled(nil)...), label("there")), api.ErrLimit)
}

// fields puts something into each field of an entry; the kinds are those that use it.
func fields() map[string]struct {
	kinds string
	set   func(e *api.Entry)
} {
	type field = struct {
		kinds string
		set   func(e *api.Entry)
	}
	m := map[string]field{
		"Package.Name": {"package", func(e *api.Entry) { e.Package.Name = "c" }}, "Package.Imports": {"package", func(e *api.Entry) { e.Package.Imports = make([]api.Symbol, 1) }},
		"Macro.Name": {"macro", func(e *api.Entry) { e.Macro.Name = sym("x") }}, "Macro.Params": {"macro", func(e *api.Entry) { e.Macro.Params = make([]api.Symbol, 1) }}, "Macro.Rest": {"macro", func(e *api.Entry) { e.Macro.Rest = true }},
		"Functions": {"functions encapsule choice stobj", func(e *api.Entry) { e.Functions = make([]api.Function, 1) }}, "Formulas": {"theorem encapsule choice", func(e *api.Entry) { e.Formulas = make([]api.Term, 1) }},
		"Logs": {"functions theorem", func(e *api.Entry) { e.Logs = make([][]api.Line, 1) }}, "Local": {"encapsule", func(e *api.Entry) { e.Local = make([]api.Entry, 1) }},
		"Stobj.Name": {"stobj", func(e *api.Entry) { e.Stobj.Name = sym("x") }}, "Stobj.Fields": {"stobj", func(e *api.Entry) { e.Stobj.Fields = make([]api.Field, 1) }},
		"Rules": {"theorem", func(e *api.Entry) { e.Rules = make([]api.Rule, 1) }}, "Enabled": {"theory", func(e *api.Entry) { e.Enabled = make([]api.Symbol, 1) }}, "Disabled": {"theory", func(e *api.Entry) { e.Disabled = make([]api.Symbol, 1) }},
		"Text": {"book", func(e *api.Entry) { e.Text = "x" }}, "Hash": {"book", func(e *api.Entry) { e.Hash = 1 << 63 }},
	}
	for i, t := range []api.Term{{Kind: api.Variable}, {Kind: -1}, {Name: api.Symbol{Name: "x"}}, {Name: api.Symbol{Package: "x"}}, {Value: api.Object{Text: "x"}}, {Value: api.Object{Pair: make([]api.Object, 1)}}, {Args: make([]api.Term, 1)}} {
		m["Macro.Body "+strconv.Itoa(i)] = field{"macro", func(e *api.Entry) { e.Macro.Body = t }}
	}
	return m
}

// samples returns an entry of each kind that Check accepts in base.
func samples() map[string]api.Entry {
	return map[string]api.Entry{
		"package": pack("b", "car"), "macro": macro("m x", "x"), "functions": defun("p x", "x"), "theorem": theorem("thm", "x"), "encapsule": encapsule("capsule", []string{"p x"}, "(p x)"), "choice": choice("p x", "(p x)"),
		"stobj": stobj("so", defined("p x", "x")), "theory": {Kind: api.EntryTheory, Name: sym("theory"), Enabled: syms("id")}, "book": {Kind: api.EntryBook, Name: sym("novel"), Text: "x"}, "label": label("there"),
	}
}

// TestForeignFields: each field of each kind that does not use it.
func TestForeignFields(t *testing.T) {
	for kind, e := range samples() {
		expectErr(t, kind, Check(base(), e), api.OK)
		for name, field := range fields() {
			if slices.Contains(strings.Fields(field.kinds), kind) {
				continue
			}
			spoilt := e
			field.set(&spoilt)
			expectErr(t, kind+" with "+name, Check(base(), spoilt), api.ErrForm)
		}
	}
}

// TestOwnFields: each field of the kinds that use it, where its contents do not matter.
func TestOwnFields(t *testing.T) {
	for kind, names := range map[string]string{"functions": "Logs", "theorem": "Logs Rules", "encapsule": "Local", "stobj": "Stobj.Fields", "book": "Hash"} {
		for _, name := range strings.Fields(names) {
			e := samples()[kind]
			fields()[name].set(&e)
			expectErr(t, kind+" with "+name, Check(base(), e), api.OK)
		}
	}
}

// TestEmptyFields: an empty list is as good as none.
func TestEmptyFields(t *testing.T) {
	for kind, e := range samples() {
		if e.Package.Imports == nil {
			e.Package.Imports = []api.Symbol{}
		}
		if e.Macro.Params == nil {
			e.Macro.Params, e.Macro.Body.Args, e.Macro.Body.Value.Pair = []api.Symbol{}, []api.Term{}, []api.Object{}
		}
		if e.Functions == nil {
			e.Functions = []api.Function{}
		}
		if e.Formulas == nil {
			e.Formulas = []api.Term{}
		}
		if e.Stobj.Fields == nil {
			e.Stobj.Fields = []api.Field{}
		}
		if e.Enabled == nil {
			e.Enabled = []api.Symbol{}
		}
		e.Logs, e.Local, e.Rules, e.Disabled = [][]api.Line{}, []api.Entry{}, []api.Rule{}, []api.Symbol{}
		expectErr(t, kind+" with empty lists", Check(base(), e), api.OK)
	}
}

// TestCheckInStrangeWorlds: worlds that are not valid decide what is taken and known as they are.
func TestCheckInStrangeWorlds(t *testing.T) {
	w := []api.Entry{{}, {Kind: 77, Name: sym("b"), Functions: []api.Function{defined("f x", "x")}}, functions(defined("g x", "(missing)"), defined("g x y", "x")), defun("car x y", "x"), {Kind: api.EntryMacro, Name: sym("c"), Macro: api.Macro{Name: sym("d")}}}
	for s, want := range map[string]api.Errno{"(f x)": api.ErrFunction, "(g x)": api.OK, "(g x y)": api.ErrArity, "(car x)": api.OK, "(car x x)": api.ErrArity, "(missing)": api.ErrFunction} {
		expectErr(t, s, Check(w, theorem("thm", s)), want)
	}
	for name, want := range map[string]api.Errno{"b": api.ErrDuplicate, "c": api.ErrDuplicate, "d": api.ErrDuplicate, "g": api.ErrDuplicate, "f": api.OK} {
		expectErr(t, name, Check(w, label(name)), want)
		expectErr(t, name, Check(w, defun(name, "'1")), want)
	}
	expectBool(t, "Valid", Valid(w), false)
}

// TestCheckKeepsTheOldFunctions: a theorem has no functions, even if something else calls them.
func TestCheckKeepsTheOldFunctions(t *testing.T) {
	e := theorem("thm", "(p x)")
	e.Functions = []api.Function{defined("p x", "x")}
	expectErr(t, "a theorem with functions", Check(nil, e), api.ErrForm)
	expectErr(t, "a formula about an old and a new function", Check(base(), encapsule("capsule", []string{"p x"}, "(equal (p x) (g x))")), api.OK)
	expectErr(t, "a term without variables", Check(nil, functions(api.Function{Name: sym("p"), Class: api.Defined, Guard: term.Lisp("p"), Body: term.Lisp("p"), Measure: term.Lisp("p")})), api.OK)
}
