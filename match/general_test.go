package match

import (
	"reflect"
	"slices"
	"strings"
	"testing"

	"lispprover/api"
	"lispprover/object"
	"lispprover/term"
)

// Arguments that are not valid, and the general rules P0.1, P0.3, P0.4 and P0.7

// strange are terms that are malformed, endless, or far larger than their memory.
func strange() []api.Term {
	args, o := tms("x", "(f (g y))"), obj("(1 2)")
	l := []api.Term{
		{}, {Kind: -1}, {Kind: 4, Args: args}, {Kind: 1 << 40, Name: sym("x"), Args: args, Value: o}, {Kind: api.Variable}, {Kind: api.Variable, Name: sym("nil")}, {Kind: api.Variable, Name: sym("x"), Args: args, Value: o},
		{Kind: api.Constant}, {Kind: api.Constant, Name: sym("x"), Args: args, Value: o}, {Kind: api.Call}, {Kind: api.Call, Name: sym("f"), Args: args, Value: o}, {Kind: api.Call, Name: sym("d"), Args: []api.Term{{}, {}}},
		term.Const(circle()), term.Const(chain(5000)), term.Const(api.Object{Kind: 7}), term.Const(object.Text(strings.Repeat("x", 1000))), call("quote", tm("x")),
	}
	return append(l, endless(1), endless(2), endless(300), endless(299), branching(1), branching(2), branching(9), branching(1000), nest(300, tm("x")), nest(3001, tm("y")), nest(400, endless(3)), double(12, tm("x")), double(100, tm("x")), double(101, tm("y")),
		double(150, endless(2)), double(64, term.Const(circle())), call("f", slices.Repeat(tms("x"), 9)...), call("f", slices.Repeat(tms("(g x)"), 3000)...), call("f", endless(1), endless(2), tm("x")), call("d", double(30, tm("x")), branching(3)),
		call("d", endless(2), tm("x")), call("d", tm("y"), endless(3)), tm("x"), tm("'1"), tm("(f x)"), tm("(e '1 x)"), tm("(e x y)"), tm("(d x x)"), tm("(d x (e y x))"))
}

func useTwo(x, y, z api.Term) {
	s := []api.Assign{{Var: sym("y"), Term: y}, {Var: y.Name, Term: z}, {Var: sym("x"), Term: x}}
	Match(x, y, nil)
	Match(x, y, s)
	MatchAll([]api.Term{x, y, tm("x")}, []api.Term{y, z, x}, s[1:])
	MatchAll(x.Args, y.Args, s[:1])
	Unify(x, y)
	Unify(call("f", x, tm("x"), tm("y")), call("f", y, z, x))
	Variant(x, y)
	Compare(x, y)
	Compare(call("f", x, z), call("f", x, y))
	Fresh([]api.Term{x, y}, z.Name)
}

func TestStrangeArguments(t *testing.T) {
	l, again := strange(), strange()
	for i := range l {
		for j := range l {
			useTwo(l[i], l[j], l[(i+j)%len(l)])
		}
	}
	for i := range l {
		if !reflect.DeepEqual(l[i], again[i]) {
			t.Errorf("an argument was changed: %d", i)
		}
	}
}

// TestEndlessTerms has terms that contain themselves after so many levels that all pairs of these levels would be too many.
func TestEndlessTerms(t *testing.T) {
	x, y, d := endless(60000), endless(59999), branching(2)
	Match(x, y, nil)
	Match(tm("(f x x)"), call("f", x, y), nil)
	Match(tm("(f x)"), call("f", x), []api.Assign{{Var: sym("x"), Term: y}})
	Unify(x, y)
	Compare(x, y)
	Variant(x, y)
	Match(double(50, x), double(50, y), nil)
	Unify(double(50, x), double(50, y))
	Compare(double(50, x), double(50, y))
	Unify(call("f", tm("x"), d, tm("y")), call("f", x, tm("y"), tm("x")))
	Unify(call("f", tm("x"), tm("y")), call("f", call("e", tm("y"), tm("y")), call("e", tm("x"), tm("x"))))
}

// TestStrangersStay: only a term that is equal to a malformed part of a pattern matches it.
func TestStrangersStay(t *testing.T) {
	l := strange()[:12]
	for i := range l {
		for j := range l {
			if l[i].Kind == api.Variable || l[j].Kind == api.Variable || l[i].Kind == api.Call || l[j].Kind == api.Call {
				continue
			}
			got, is := Match(call("f", tm("x"), l[i]), call("f", tm("y"), l[j]), nil)
			if i == j {
				expectSubst(t, "Match", got, is, subst("x", "y"))
			} else {
				expectNone(t, "Match", got, is)
			}
			got, is = Unify(call("f", tm("x"), l[i]), call("f", tm("y"), l[j]))
			if i == j {
				expectSubst(t, "Unify", got, is, subst("x", "y"))
			} else {
				expectNone(t, "Unify", got, is)
			}
		}
	}
}

// TestCapacityIsKept: not even the unused capacity of a slice may be changed.
func TestCapacityIsKept(t *testing.T) {
	all := func() ([]api.Term, []api.Term, []api.Assign) {
		return tms("x", "(g y x)", "(spare)", "(more z)"), tms("'1", "(g z '1)", "(spare)", "(more '2)"), subst("x", "'1", "y", "z", "w", "'3", "v", "'4")
	}
	patterns, l, s := all()
	for n := range 5 {
		for k := range 5 {
			MatchAll(patterns[:n], l[:n], s[:k])
			Match(call("f", patterns[:n]...), call("f", l[:n]...), s[:k])
			Match(tm("(f u)"), tm("(f '1)"), s[:k])
			Unify(call("f", patterns[:n]...), call("f", l[:n]...))
			Compare(call("f", patterns[:n]...), call("f", l[:n]...))
			Variant(call("f", patterns[:n]...), call("f", l[:n]...))
			Fresh(patterns[:n], sym("x"))
		}
	}
	wantPatterns, wantL, wantS := all()
	if !reflect.DeepEqual(patterns, wantPatterns) || !reflect.DeepEqual(l, wantL) || !reflect.DeepEqual(s, wantS) {
		t.Error("an argument was changed")
	}
}

// TestResultsAreNew: changing the list of a result does not change an argument, and a result does not change with a later one.
func TestResultsAreNew(t *testing.T) {
	s := make([]api.Assign, 1, 10)
	s[0] = subst("x", "'1")[0]
	one, _ := Match(tm("(f x y)"), tm("(f '1 '2)"), s)
	two, _ := Match(tm("(f x z)"), tm("(f '1 '3)"), s)
	if !sameAll(one, subst("x", "'1", "y", "'2")) || !sameAll(two, subst("x", "'1", "z", "'3")) {
		t.Errorf("two results: %s, %s", shortAll(one), shortAll(two))
	}
	one[0].Term = tm("'5")
	if !sameAll(s, subst("x", "'1")) || !sameAll(two, subst("x", "'1", "z", "'3")) {
		t.Error("a change of a result changed something else")
	}
}
