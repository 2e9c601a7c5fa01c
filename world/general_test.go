package world

import (
	"reflect"
	"slices"
	"strconv"
	"testing"

	"lispprover/api"
	"lispprover/term"
)

// Arguments that are not valid, and the general rules P0.1, P0.3 and P0.4

// strangeTerms are terms that are malformed, endless, or far larger than their memory.
func strangeTerms() []api.Term {
	l := []api.Term{
		{}, {Kind: -1, Args: tms("(f x)")}, {Kind: 1 << 40, Name: sym("f"), Args: tms("x")}, {Kind: api.Variable}, {Kind: api.Constant}, {Kind: api.Call}, {Kind: api.Call, Name: sym("f"), Value: circle(), Args: []api.Term{{}}},
		term.Const(circle()), call("quote", tm("x")), call("f", slices.Repeat(tms("x"), 9)...), call("d", slices.Repeat(tms("(f x)"), 3000)...),
	}
	return append(l, endless("e", 1), endless("d", 2), endless("e", 300), branching("d", 2), branching("f", 1), branching("e", 9), branching("e", 1000), nest("f", 3001, tm("y")), nest("f", 400, endless("d", 3)),
		double("d", 100, tm("x")), double("d", 150, endless("e", 2)), double("e", 64, term.Const(circle())), call("d", double("d", 30, tm("x")), branching("f", 3)), tm("x"), tm("(f (f x))"), tm("(d x '1)"))
}

// strangeEntries are entries of all kinds, and of none, whose fields contain strange terms.
func strangeEntries() []api.Entry {
	var l []api.Entry
	for i, x := range strangeTerms() {
		f := api.Function{Name: sym("d"), Params: syms("x y"), Class: i % 5, Guard: x, Body: x, Measure: x}
		g := api.Function{Name: sym("f"), Params: syms("x"), Class: api.Defined, Guard: tm("t"), Body: x}
		e := api.Entry{Kind: i%12 - 1, Name: sym("e-" + strconv.Itoa(i)), Functions: []api.Function{f, g, {}, f}, Formulas: []api.Term{x, x}}
		e.Macro = api.Macro{Name: sym("mac"), Params: slices.Repeat(syms("x"), 100), Body: x}
		l = append(l, e, functions(g), functions(f, g), api.Entry{Kind: api.EntryTheorem, Name: sym("thm"), Formulas: []api.Term{x}}, api.Entry{Kind: api.EntryMacro, Name: sym("mac"), Macro: api.Macro{Name: sym("mac"), Body: x}})
		l = append(l, api.Entry{Kind: api.EntryLabel, Name: sym("l"), Macro: api.Macro{Body: x}}, api.Entry{Kind: api.EntryChoice, Name: sym("d"), Functions: []api.Function{{Name: sym("d"), Class: api.Choice, Guard: tm("t"), Body: x}}, Formulas: []api.Term{x}})
	}
	cap := encapsule("cap", []string{"f x"})
	cap.Local = make([]api.Entry, 1)
	cap.Local[0] = cap
	return append(l, cap, api.Entry{}, api.Entry{Kind: api.EntryPackage}, api.Entry{Kind: api.EntryStobj, Name: sym("so")}, api.Entry{Kind: api.EntryFunctions, Name: sym("fs")}, api.Entry{Kind: api.EntryChoice, Name: sym("ch")})
}

func useWorld(w []api.Entry) {
	for _, name := range append(syms("f d e mac cap l quote nil car a::x"), api.Symbol{}) {
		Find(w, name)
		Owner(w, name)
		Function(w, name)
		Macro(w, name)
		Arity(w, name)
		Taken(w, name)
		Executable(w, name)
		Undo(w, name)
	}
	Packages(w)
	Valid(w)
}

func useTerm(w []api.Entry, x api.Term) {
	Known(w, x)
	Closed(x, syms("x nil"))
	Closed(x, nil)
	Depends(w, x, x)
	Depends(w, x.Args...)
}

func TestStrangeArguments(t *testing.T) {
	terms, entries := strangeTerms(), strangeEntries()
	for i, e := range entries {
		w := []api.Entry{e, defun("e x y", "x"), entries[(i+1)%len(entries)], {}}
		useWorld(w)
		useWorld(entries[i:])
		for j := range 4 {
			useTerm(w, terms[(i+7*j)%len(terms)])
		}
		for j := range entries {
			Check(w, entries[j])
			Check(entries[:i], entries[j])
			if got, err := Extend(entries[i:i+1], entries[j]); err != api.OK && len(got) != 0 {
				t.Errorf("a world beside the error %d", err)
			}
		}
	}
	if !reflect.DeepEqual(terms, strangeTerms()) || !reflect.DeepEqual(entries, strangeEntries()) {
		t.Error("an argument was changed")
	}
}

// TestDependsOfLargeTerms: what is endless, or far larger than memory, in terms and in bodies.
func TestDependsOfLargeTerms(t *testing.T) {
	w := []api.Entry{functions(api.Function{Name: sym("f"), Params: syms("x"), Class: api.Defined, Body: endless("e", 3)}), functions(api.Function{Name: sym("e"), Params: syms("x y"), Class: api.Defined, Body: double("d", 100, tm("(car x)"))}), defun("d x y", "(f x)"), defun("up x", "(e x x)")}
	for name, want := range map[string]string{"f": "d e f", "e": "d e f", "d": "d e f", "up": "d e f up", "g": "g", "car": ""} {
		expectSyms(t, "Depends", Depends(w, nest(name, 1<<16-1, tm("x"))), syms(want))
		expectSyms(t, "Depends", Depends(w, double(name, 100, tm("x"))), syms(want))
		expectSyms(t, "Depends", Depends(w, branching(name, 2), endless(name, 9)), syms(want))
		expectBool(t, "Executable", Executable(w, sym(name)), name != "g")
	}
}

// TestLongChainOfFunctions: each function calls the next one.
func TestLongChainOfFunctions(t *testing.T) {
	const n = 1 << 12
	name := func(i int) api.Symbol { return api.Symbol{Package: "lisp", Name: "f" + strconv.Itoa(n+i)} }
	var w []api.Entry
	var want []api.Symbol
	for i := range n {
		body := term.App(name(i + 1))
		if i == n-1 {
			body = tm("'1")
		}
		w = append(w, functions(api.Function{Name: name(i), Class: api.Defined, Guard: tm("t"), Body: body}))
		want = append(want, name(i))
	}
	expectSyms(t, "Depends", Depends(w, term.App(name(0))), want)
	expectBool(t, "Executable", Executable(w, name(0)), true)
	expectBool(t, "Executable without the last one", Executable(w[:n-1], name(0)), false)
}

// TestArgumentsAreKept: not even the unused capacity of a slice may be changed.
func TestArgumentsAreKept(t *testing.T) {
	w, terms, params := append(base(), label("spare"), label("more")), tms("(cons x y)", "(id x)", "(g z)", "(h x y)"), syms("x y z u")
	e := samples()["functions"]
	for n := range len(w) - 1 {
		useWorld(w[:n])
		Extend(w[:n], e)
		Check(w[:n], e)
		Packages(w[:n])
		Undo(w[:n], w[n/2].Name)
		for k := range len(terms) {
			useTerm(w[:n], call("if", terms[:k]...))
			Depends(w[:n], terms[:k]...)
			Closed(terms[k], params[:k])
		}
	}
	if !reflect.DeepEqual(w, append(base(), label("spare"), label("more"))) || !reflect.DeepEqual(terms, tms("(cons x y)", "(id x)", "(g z)", "(h x y)")) || !reflect.DeepEqual(e, samples()["functions"]) {
		t.Error("an argument was changed")
	}
}

// TestResultsDoNotMeet: what is done with one result does not change another one, nor an argument.
func TestResultsDoNotMeet(t *testing.T) {
	w := base()
	one, _ := Extend(w, label("one"))
	two, _ := Extend(one, label("two"))
	three, _ := Extend(one, label("three"))
	before, _ := Undo(two, sym("here"))
	other := append(before, label("other"))
	fourth, _ := Extend(before, label("fourth"))
	for what, c := range map[string]struct {
		got  []api.Entry
		last string
	}{"one": {one, "one"}, "two": {two, "two"}, "three": {three, "three"}, "other": {other, "other"}, "fourth": {fourth, "fourth"}} {
		if c.got[len(c.got)-1].Name != sym(c.last) {
			t.Errorf("%s ends with %s", what, c.got[len(c.got)-1].Name.Name)
		}
	}
	if !reflect.DeepEqual(two[:len(w)], base()) || !reflect.DeepEqual(w, base()) || two[len(w)].Name != sym("one") {
		t.Error("a world was changed")
	}
	Packages(w)[0].Name = "changed"
	if Packages(w)[0].Name != "lisp" {
		t.Error("Packages was changed")
	}
}
