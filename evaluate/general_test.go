package evaluate

import (
	"math"
	"reflect"
	"slices"
	"testing"

	"lispprover/api"
	"lispprover/object"
)

// Arguments that are not valid, and the general rules P0.1, P0.3 and P0.4

// strangeTerms are terms that are malformed, endless, or far larger than their memory.
func strangeTerms() []api.Term {
	l := []api.Term{
		{}, {Kind: -1, Args: tms("(id x)")}, {Kind: 1 << 40, Name: sym("id"), Args: tms("x")}, {Kind: api.Variable}, {Kind: api.Constant}, {Kind: api.Call}, {Kind: api.Call, Name: sym("id"), Value: circle(), Args: []api.Term{{}}},
		constant(circle()), call("quote", tm("x")), call("cons", slices.Repeat(tms("x"), 9)...), call("wide", slices.Repeat(tms("(id x)"), 3000)...), nest("id", 3001, tm("y")), nest("car", 400, endless("cons", 3)),
	}
	for _, name := range []string{"cons", "swap", "if", "d", "e", "unknown"} {
		l = append(l, endless(name, 1), endless(name, 2), endless(name, 300), branching(name, 1), branching(name, 2), branching(name, 3), branching(name, 1000), double(name, 100, tm("x")), double(name, 150, endless("cons", 2)), double(name, 64, constant(circle())))
	}
	for _, name := range []string{"car", "id", "consp", "equal", "binary-+", "string-append", "intern"} {
		l = append(l, call(name, constant(circle())), call(name, constant(circle()), constant(circle())), call(name, api.Term{}, api.Term{Kind: 9}))
	}
	return l
}

// strangeWorlds have functions whose parts are strange.
func strangeWorlds() [][]api.Entry {
	worlds := [][]api.Entry{nil, base(), make([]api.Entry, 3), {functions(api.Function{}, defined("e x", "(e (car x))"))}}
	for i, x := range strangeTerms() {
		d := api.Function{Name: sym("d"), Params: syms("x y"), Class: api.Defined, Guard: x, Body: x, Measure: x}
		e := api.Function{Name: sym("e"), Params: slices.Repeat(syms("x"), i%4), Class: i % 5, Body: x}
		wide := api.Function{Name: sym("wide"), Params: slices.Repeat(syms("y"), 3000), Class: api.Defined, Body: x}
		worlds = append(worlds, []api.Entry{functions(d, wide), {Kind: i % 12, Functions: []api.Function{e, d, e}}, defun("id x", "x")})
	}
	return worlds
}

func TestStrangeArguments(t *testing.T) {
	terms, worlds := strangeTerms(), strangeWorlds()
	envs := [][]api.Binding{nil, {{}}, {{Var: sym("x"), Value: circle()}}, {{Var: sym("x")}, {Var: sym("y"), Value: chain(1500)}}}
	for i, w := range worlds {
		for j, x := range terms {
			for _, steps := range []int{math.MinInt, -1, 0, 1, 2, 300} {
				value, taken, err := Term(w, x, envs[(i+j)%len(envs)], steps)
				if err != api.OK {
					expectFailure(t, "a strange term", value, taken, err, err)
				}
				Apply(w, x.Name, []api.Object{x.Value, circle()}[:j%3], steps)
			}
		}
	}
	for _, x := range terms {
		for _, w := range worlds[:5] {
			Term(w, x, envs[3], api.MaxSteps)
		}
	}
	if !reflect.DeepEqual(terms, strangeTerms()) || !reflect.DeepEqual(worlds, strangeWorlds()) {
		t.Error("an argument was changed")
	}
}

// TestEndlessTerms: a term that contains itself takes all steps, unless an error comes first.
func TestEndlessTerms(t *testing.T) {
	w, env := base(), bindings("x 1")
	for _, c := range []struct {
		term api.Term
		want api.Errno
	}{
		{endless("cons", 1), api.ErrSteps}, {endless("swap", 7), api.ErrSteps}, {branching("if", 3), api.ErrSteps}, {branching("id", 1), api.ErrSteps}, {endless("unknown", 5), api.ErrFunction}, {endless("id", 5), api.ErrArity}, {endless("h", 5), api.ErrExecutable},
		{double("cons", 100, tm("x")), api.ErrLimit}, {double("swap", 100, tm("y")), api.ErrUnbound}, {double("equal", 100, tm("x")), api.ErrSteps},
	} {
		value, steps, err := Term(w, c.term, env, 100000)
		expectFailure(t, c.term.Name.Name, value, steps, err, c.want)
	}
	value, steps, err := Term(w, call("if", tm("x"), tm("x"), endless("cons", 2)), env, 5)
	expectValue(t, "an endless term that is not evaluated", value, steps, err, ok("1", 1))
}

// TestStrangeFunctions: what the document says also of worlds that are not valid.
func TestStrangeFunctions(t *testing.T) {
	wide := api.Function{Name: sym("wide"), Params: syms("p1 p2 p3 p4 p5 p6 p7 p8 p9"), Class: api.Defined, Body: tm("(cons p1 p9)")}
	w := []api.Entry{
		functions(defined("f x", "(cons x '1)"), defined("f x", "'2")), defun("f x y", "'3"), functions(wide), defun("free x", "(cons x y)"), defun("by-free y", "(free y)"), defun("nil x", "x"), functions(api.Function{Class: api.Defined, Body: tm("'4")}), defun("quote x", "(cons x x)"),
		functions(fun(api.Constrained, "equal x y", "t", "x", ""), fun(api.Choice, "if x y z", "t", "x", ""), fun(0, "kind x", "t", "x", ""), fun(4, "kinds x", "t", "x", "")), {Kind: api.EntryEncapsule, Functions: []api.Function{defined("in x", "x")}}, {Kind: api.EntryTheorem, Functions: []api.Function{defined("out x", "x")}}, {Kind: api.EntryEncapsule, Local: []api.Entry{defun("local x", "x")}},
	}
	for _, c := range []struct {
		f, args string
		want    outcome
	}{
		{"f", "1", ok("(1 . 1)", 2)}, {"f", "1 2", fails(api.ErrArity, 1)}, {"wide", "1 2 3 4 5 6 7 8 9", ok("(1 . 9)", 2)}, {"nil", "1", ok("1", 1)}, {"quote", "1", ok("(1 . 1)", 2)}, {"in", "1", ok("1", 1)}, {"out", "1", fails(api.ErrFunction, 1)}, {"local", "1", fails(api.ErrFunction, 1)},
		// A variable has no value but those of the parameters.
		{"free", "1", fails(api.ErrUnbound, 2)}, {"by-free", "1", fails(api.ErrUnbound, 3)},
		{"kind", "1", fails(api.ErrExecutable, 1)}, {"kinds", "1", fails(api.ErrExecutable, 1)}, {"equal", "1 1", fails(api.ErrExecutable, 1)}, {"if", "1 1 1", fails(api.ErrExecutable, 1)},
	} {
		expectOutcome(t, "Apply of "+c.f, ofApply(w, sym(c.f), objs(c.args)), c.want)
	}
	expectOutcome(t, "Apply of no symbol", ofApply(w, api.Symbol{}, nil), ok("4", 1))
	expectOutcome(t, "a free variable", ofTerm(w, tm("(free x)"), bindings("x 1 y 2")), fails(api.ErrUnbound, 2))
}

// TestArgumentsAreKept: not even the unused capacity of a slice may be changed.
func TestArgumentsAreKept(t *testing.T) {
	w, terms, env, args := base(), tms("(cons x y)", "(swap x y)", "(down '9)", "(even x)", "(g x)"), bindings("x (1 2) y 2 x 3 z 4"), objs("(1 2) 3 4 5")
	for n := range w {
		for k := range env {
			for _, x := range terms {
				x.Args = x.Args[:min(k, len(x.Args))]
				Term(w[:n], x, env[:k], 1000)
				Apply(w[:n], x.Name, args[:k], 1000)
			}
			Apply(w, sym("last"), args[:k], 10)
		}
	}
	if !reflect.DeepEqual(w, base()) || !reflect.DeepEqual(env, bindings("x (1 2) y 2 x 3 z 4")) || !reflect.DeepEqual(args, objs("(1 2) 3 4 5")) || !reflect.DeepEqual(terms, tms("(cons x y)", "(swap x y)", "(down '9)", "(even x)", "(g x)")) {
		t.Error("an argument was changed")
	}
}

// TestResultsAreKept: a value does not change when the arguments do, unless it shares memory with them.
func TestResultsAreKept(t *testing.T) {
	env, args := bindings("x 1 y 2"), objs("1 2")
	first, _, _ := Term(nil, tm("(cons x y)"), env, 1)
	second, _, _ := Term(nil, tm("x"), env, 0)
	third, _, _ := Apply(nil, sym("cons"), args, 1)
	env[0].Value, args[0] = object.Int(7), object.Int(7)
	if text(first) != "(1 . 2)" || text(second) != "1" || text(third) != "(1 . 2)" {
		t.Errorf("%s, %s and %s", text(first), text(second), text(third))
	}
}
