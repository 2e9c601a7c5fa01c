package match

import (
	"slices"
	"testing"

	"lispprover/api"
	"lispprover/term"
)

// P9.2

func expectUnify(t *testing.T, a, b string, want ...string) {
	t.Helper()
	got, is := Unify(tm(a), tm(b))
	expectSubst(t, "Unify of "+a+" and "+b, got, is, subst(want...))
}

func expectNoUnifier(t *testing.T, a, b string) {
	t.Helper()
	got, is := Unify(tm(a), tm(b))
	expectNone(t, "Unify of "+a+" and "+b, got, is)
	got, is = Unify(tm(b), tm(a))
	expectNone(t, "Unify of "+b+" and "+a, got, is)
}

// TestUnifyVariables: a variable is assigned the other term; of two variables, the first one is assigned the second one.
func TestUnifyVariables(t *testing.T) {
	expectUnify(t, "x", "x")
	expectUnify(t, "x", "y", "x", "y")
	expectUnify(t, "y", "x", "y", "x")
	expectUnify(t, "x", "a::x", "x", "a::x")
	for _, s := range []string{"'1", "'x", "'nil", "(x)", "(f)", "(f y)", "(f y z)", "(f (x) 'x)"} {
		expectUnify(t, "x", s, "x", s)
		expectUnify(t, s, "x", "x", s)
		expectUnify(t, "(f x)", "(f "+s+")", "x", s)
		expectUnify(t, "(f "+s+")", "(f x)", "x", s)
		expectUnify(t, s, s)
		expectUnify(t, "(f x (g x))", "(f x (g x))")
	}
}

func TestUnifyDifferentTerms(t *testing.T) {
	l := []string{"'1", "'2", "'x", "'nil", "\"1\"", "'(f)", "(f)", "(g)", "(a::f)", "(f '1)", "(f '2)", "(g '1)", "(f '1 '1)", "(f '1 '2)", "(f '1 (f))", "(f (f) '1)", "(f '1 '1 '1)"}
	for i, a := range l {
		for j, b := range l {
			if i == j {
				expectUnify(t, a, b)
				expectUnify(t, "(g x "+a+" y)", "(g y "+b+" z)", "x", "z", "y", "z")
			} else {
				expectNoUnifier(t, a, b)
				expectNoUnifier(t, "(g x "+a+" y)", "(g y "+b+" z)")
				expectNoUnifier(t, "(g x x)", "(g "+a+" "+b+")")
				expectNoUnifier(t, "(g x "+a+")", "(g "+b+" x)")
			}
		}
	}
	expectNoUnifier(t, "(f x)", "(g x)")
	expectNoUnifier(t, "(f x)", "(f x y)")
	expectNoUnifier(t, "(f)", "(f x)")
	expectNoUnifier(t, "(f x)", "'(f x)")
}

// TestUnifyOccurs: no variable is assigned a term in which it occurs.
func TestUnifyOccurs(t *testing.T) {
	for _, s := range []string{"(f x)", "(f y x)", "(f '1 (g y (h x)))", "(f x x)"} {
		expectNoUnifier(t, "x", s)
		expectNoUnifier(t, "(f z x)", "(f x "+s+")")
		expectNoUnifier(t, "(f x y)", "(f y "+s+")")
		expectNoUnifier(t, "(f x y)", "(f (g y) (g x))")
		expectNoUnifier(t, "(f x z)", "(f z "+s+")")
		expectNoUnifier(t, "(f x x)", "(f z "+s+")")
	}
	expectNoUnifier(t, "(f x y z)", "(f (g y) (g z) (g x))")
	expectNoUnifier(t, "(f x y z x)", "(f y z (g x) '1)")
	expectNoUnifier(t, "(f x (g x))", "(f (g y) y)")
	expectNoUnifier(t, "(f x x)", "(f (g y) y)")
	expectNoUnifier(t, "(f x x y)", "(f (g y) (g (g y)) z)")
	expectUnify(t, "x", "(f a::x 'x (x))", "x", "(f a::x 'x (x))")
}

// TestUnifyOrder: arguments from left to right; the assignments in the order in which they are made, with the later ones applied to the earlier ones.
func TestUnifyOrder(t *testing.T) {
	expectUnify(t, "(f x b)", "(f a y)", "x", "a", "b", "y")
	expectUnify(t, "(f x y)", "(f '1 '2)", "x", "'1", "y", "'2")
	expectUnify(t, "(f y x)", "(f '1 '2)", "y", "'1", "x", "'2")
	expectUnify(t, "(f x y)", "(f y '1)", "x", "'1", "y", "'1")
	expectUnify(t, "(f x y z)", "(f y z '1)", "x", "'1", "y", "'1", "z", "'1")
	expectUnify(t, "(f z y x)", "(f '1 z y)", "z", "'1", "y", "'1", "x", "'1")
	expectUnify(t, "(f x y z)", "(f (g y) (g z) '1)", "x", "(g (g '1))", "y", "(g '1)", "z", "'1")
	expectUnify(t, "(f z y x)", "(f '1 (g z) (g y))", "z", "'1", "y", "(g '1)", "x", "(g (g '1))")
	expectUnify(t, "(f x x)", "(f y z)", "x", "z", "y", "z")
	expectUnify(t, "(f y z)", "(f x x)", "y", "x", "z", "x")
	expectUnify(t, "(f x x)", "(f y x)", "x", "y")
	expectUnify(t, "(f x y)", "(f y x)", "x", "y")
	expectUnify(t, "(f x y x)", "(f y x '1)", "x", "'1", "y", "'1")
	expectUnify(t, "(f x x)", "(f (g y) (g '1))", "x", "(g '1)", "y", "'1")
	expectUnify(t, "(f x x)", "(f (g y) (g z))", "x", "(g z)", "y", "z")
	expectUnify(t, "(f (g y) (g z))", "(f x x)", "x", "(g y)", "z", "y")
	expectUnify(t, "(f (g y) x)", "(f x (g z))", "x", "(g z)", "y", "z")
	expectUnify(t, "(f x y)", "(f (g y) (h z))", "x", "(g (h z))", "y", "(h z)")
	expectUnify(t, "(f (g x y) z)", "(f z (g '1 (h x)))", "z", "(g '1 (h '1))", "x", "'1", "y", "(h '1)")
	expectUnify(t, "(f x (g y (h z)) z)", "(f (k y z) (g '1 w) '2)", "x", "(k '1 '2)", "y", "'1", "w", "(h '2)", "z", "'2")
	expectNoUnifier(t, "(f x (g y (h z)) z)", "(f (k y z) (g '1 w) (k w))")
	expectUnify(t, "(f x (h z) z)", "(f z w '1)", "x", "'1", "w", "(h '1)", "z", "'1")
	expectUnify(t, "(f a b c d)", "(f (g b b) (g c c) (g d d) '1)", "a", "(g (g (g '1 '1) (g '1 '1)) (g (g '1 '1) (g '1 '1)))", "b", "(g (g '1 '1) (g '1 '1))", "c", "(g '1 '1)", "d", "'1")
	expectUnify(t, "(f (g x x) (g y y))", "(f (g y z) (g (k a) (k b)))", "x", "(k b)", "y", "(k b)", "z", "(k b)", "a", "b")
}

// modelUnify follows the description literally: it goes on with the unifier s.
func modelUnify(a, b api.Term, s []api.Assign) ([]api.Assign, bool) {
	a, b = term.Substitute(a, s), term.Substitute(b, s)
	switch {
	case term.Equal(a, b):
		return s, true
	case a.Kind == api.Variable:
		return modelAssign(a, b, s)
	case b.Kind == api.Variable:
		return modelAssign(b, a, s)
	case a.Kind != api.Call || b.Kind != api.Call || a.Name != b.Name || len(a.Args) != len(b.Args):
		return nil, false
	}
	unified := true
	for i := range a.Args {
		s, unified = modelUnify(a.Args[i], b.Args[i], s)
		if !unified {
			return nil, false
		}
	}
	return s, true
}

func modelAssign(v, x api.Term, s []api.Assign) ([]api.Assign, bool) {
	if term.Occurs(v, x) {
		return nil, false
	}
	one := api.Assign{Var: v.Name, Term: x}
	var all []api.Assign
	for _, a := range s {
		all = append(all, api.Assign{Var: a.Var, Term: term.Substitute(a.Term, []api.Assign{one})})
	}
	return append(all, one), true
}

// TestRandomUnifiers compares Unify with its description, and checks that the unifier unifies.
func TestRandomUnifiers(t *testing.T) {
	for _, n := range []int{4, 12, 30} {
		m := newMaker(int64(n))
		m.most, m.variables, m.functions = 2+n/6, nil, syms("f g")
		for _, v := range vars("v", n) {
			m.variables = append(m.variables, v.Name)
		}
		found, failed := 0, 0
		for range 15000 {
			a, b := m.term(1+m.Intn(4)), m.term(1+m.Intn(4))
			if m.Intn(4) > 0 {
				a, b = m.pair(1 + m.Intn(4))
			}
			got, is := Unify(a, b)
			want, exists := modelUnify(a, b, nil)
			if is != exists || !sameAll(got, want) {
				t.Fatalf("Unify of %s and %s: %s, %v, want %s, %v", text(a), text(b), shortAll(got), is, shortAll(want), exists)
			}
			if is && !term.Equal(term.Substitute(a, got), term.Substitute(b, got)) {
				t.Fatalf("Unify of %s and %s: %s", text(a), text(b), shortAll(got))
			}
			if is {
				found++
			} else {
				failed++
			}
		}
		if found < 2000 || failed < 2000 {
			t.Errorf("%d variables: %d unifiers and %d failures", n, found, failed)
		}
	}
}

// pair returns two terms of which many can be unified: they differ only where one of them has a variable.
func (m *maker) pair(depth int) (api.Term, api.Term) {
	switch v := term.Var(pick(m.Rand, m.variables)); m.Intn(8) {
	case 0:
		return v, m.term(depth)
	case 1:
		return m.term(depth), v
	}
	if depth == 1 {
		x := m.term(1)
		return x, x
	}
	f := pick(m.Rand, m.functions)
	a, b := api.Term{Kind: api.Call, Name: f}, api.Term{Kind: api.Call, Name: f}
	for range m.Intn(m.most + 1) {
		x, y := m.pair(depth - 1)
		a.Args, b.Args = append(a.Args, x), append(b.Args, y)
	}
	return a, b
}

// TestUnifyMostGeneral: every unifier is an instance of the one that is returned.
func TestUnifyMostGeneral(t *testing.T) {
	m := newMaker(5)
	checked := 0
	for range 20000 {
		a, b := m.pair(1 + m.Intn(3))
		var s []api.Assign
		for _, v := range m.variables {
			s = append(s, api.Assign{Var: v, Term: term.Const(pick(m.Rand, m.constants[:2]))})
		}
		if !term.Equal(term.Substitute(a, s), term.Substitute(b, s)) {
			continue
		}
		checked++
		got, is := Unify(a, b)
		if !is {
			t.Errorf("Unify of %s and %s: none", text(a), text(b))
		}
		for _, v := range m.variables {
			x := term.Substitute(term.Substitute(term.Var(v), got), s)
			if !term.Equal(x, term.Substitute(term.Var(v), s)) {
				t.Errorf("Unify of %s and %s: %s", text(a), text(b), shortAll(got))
			}
		}
	}
	if checked < 1000 {
		t.Errorf("%d checked", checked)
	}
}

// doubles returns the terms (g v1 v1), (g v2 v2), .., (g last last) for the variables v0, v1, ...
func doubles(l []api.Term, last api.Term) []api.Term {
	var r []api.Term
	for _, x := range append(slices.Clone(l[1:]), last) {
		r = append(r, call("g", x, x))
	}
	return r
}

// TestUnifyGrowth has unifiers of valid terms that have far more nodes than memory.
func TestUnifyGrowth(t *testing.T) {
	for _, n := range []int{2, 10, 60, 200, 800} {
		l := vars("v", n)
		a, b := group(l), group(doubles(l, tm("z")))
		expectValidTerms(t, a, b)
		want := tm("z")
		wants := make([]api.Term, n)
		for i := n - 1; i >= 0; i-- {
			want = call("g", want, want)
			wants[i] = want
		}
		got, is := Unify(a, b)
		checkAll(t, got, is, l, wants)
		got, is = Unify(b, a)
		checkAll(t, got, is, l, wants)
		slices.Reverse(l)
		slices.Reverse(wants)
		r := doubles(vars("v", n), tm("z"))
		slices.Reverse(r)
		got, is = Unify(group(l), group(r))
		checkAll(t, got, is, l, wants)
		if n <= 200 {
			s, exists := modelUnify(group(l), group(r), nil)
			checkAll(t, s, exists, l, wants)
		}
	}
}

func checkAll(t *testing.T, got []api.Assign, is bool, l, wants []api.Term) {
	t.Helper()
	if !is || len(got) != len(l) {
		t.Fatalf("Unify: %d assignments, %v, want %d", len(got), is, len(l))
	}
	for i, a := range got {
		if a.Var != l[i].Name || !term.Equal(a.Term, wants[i]) {
			t.Errorf("assignment %d: %s", i, shortAll(got[i:i+1]))
		}
	}
}

// TestUnifyTwoGrowths unifies two terms that both grow; the last variables are equal only if all that grows is.
func TestUnifyTwoGrowths(t *testing.T) {
	for _, n := range []int{2, 10, 60, 350} {
		x, y := vars("x", n), vars("y", n)
		unify := func(end, other string) ([]api.Assign, bool) {
			a := group(append(append(slices.Clone(x), y...), x[0]))
			b := group(append(append(doubles(x, tm(end)), doubles(y, tm(other))...), y[0]))
			expectValidTerms(t, a, b)
			return Unify(a, b)
		}
		got, is := unify("u", "w")
		if !is || len(got) != 2*n+1 || got[2*n].Var != sym("u") || !same(got[2*n].Term, tm("w")) || !term.Equal(got[0].Term, got[n].Term) || !term.Occurs(tm("w"), got[0].Term) || term.Occurs(tm("u"), got[0].Term) {
			t.Errorf("%d variables: %d, %v", n, len(got), is)
		}
		got, is = unify("u", "u")
		if !is || len(got) != 2*n || !term.Equal(got[0].Term, got[n].Term) {
			t.Errorf("%d variables: %d, %v", n, len(got), is)
		}
		for _, end := range []string{"'2", "(g u u)", "(g u '1)"} {
			got, is = unify("'1", end)
			expectNone(t, "Unify", got, is)
		}
		got, is = unify("u", "(g u u)")
		expectNone(t, "Unify", got, is)
		got, is = unify("u", "(f x0)")
		expectNone(t, "Unify", got, is)
	}
}

// TestUnifyDeep has unifiers of valid terms that are far deeper than a valid term.
func TestUnifyDeep(t *testing.T) {
	n := 13
	l := vars("v", n)
	var deep []api.Term
	for _, x := range append(slices.Clone(l[1:]), tm("z")) {
		deep = append(deep, nest(api.MaxDepth-5, x))
	}
	a, b := group(l), group(deep)
	expectValidTerms(t, a, b)
	got, is := Unify(a, b)
	if !is || len(got) != n || !term.Equal(got[0].Term, nest(n*(api.MaxDepth-5), tm("z"))) || !term.Equal(got[n-1].Term, nest(api.MaxDepth-5, tm("z"))) {
		t.Errorf("Unify of deep terms: %d, %v", len(got), is)
	}
	deep[n-1] = call("f", l[0])
	got, is = Unify(a, group(deep))
	expectNone(t, "Unify", got, is)
	got, is = Unify(nest(api.MaxDepth-1, tm("x")), nest(api.MaxDepth-1, tm("'1")))
	expectSubst(t, "Unify of the deepest terms", got, is, subst("x", "'1"))
	got, is = Unify(nest(api.MaxDepth-1, tm("x")), nest(api.MaxDepth-2, tm("x")))
	expectNone(t, "Unify of the deepest terms", got, is)
}

// TestUnifyManyVariables has as many variables as fit into valid terms.
func TestUnifyManyVariables(t *testing.T) {
	l := vars("v", 2500)
	expectValidTerms(t, group(l))
	shifted := append(slices.Clone(l[1:]), tm("'1"))
	got, is := Unify(group(l), group(shifted))
	checkAll(t, got, is, l, slices.Repeat(tms("'1"), 2500))
	back := append(tms("'1"), l[:2499]...)
	got, is = Unify(group(l), group(back))
	checkAll(t, got, is, l, slices.Repeat(tms("'1"), 2500))
	got, is = Unify(group(l), group(append(slices.Clone(l[1:]), l[0])))
	checkAll(t, got, is, l[:2499], slices.Repeat(l[2499:], 2499))
	got, is = Unify(group(l), group(l))
	expectSubst(t, "Unify", got, is, nil)
}

// TestUnifyBeyondTheLimits has terms that are not valid, but for which the description determines a result.
func TestUnifyBeyondTheLimits(t *testing.T) {
	for _, n := range []int{11, 12, 100, 1000} {
		x, y := double(n, tm("(g x)")), double(n, tm("(g y)"))
		got, is := Unify(x, y)
		expectSubst(t, "Unify", got, is, subst("x", "y"))
		got, is = Unify(x, x)
		expectSubst(t, "Unify", got, is, nil)
		got, is = Unify(x, double(n, tm("(g (g x))")))
		expectNone(t, "Unify", got, is)
		got, is = Unify(tm("y"), x)
		checkAll(t, got, is, tms("y"), []api.Term{x})
		got, is = Unify(tm("x"), x)
		expectNone(t, "Unify", got, is)
		got, is = Unify(x, double(n-1, tm("(g x)")))
		expectNone(t, "Unify", got, is)
		got, is = Unify(x, double(n-1, tm("z")))
		expectSubst(t, "Unify", got, is, subst("z", "(d (g x) (g x))"))
	}
	deep := 1<<16 - 1
	got, is := Unify(nest(deep, tm("x")), nest(deep, tm("y")))
	expectSubst(t, "Unify of deep terms", got, is, subst("x", "y"))
	got, is = Unify(nest(deep, tm("x")), nest(deep-1, tm("x")))
	expectNone(t, "Unify of deep terms", got, is)
}
