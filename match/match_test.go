package match

import (
	"slices"
	"testing"

	"lispprover/api"
	"lispprover/term"
)

// P9.1

func expectMatch(t *testing.T, pattern, x string, s []api.Assign, want ...string) {
	t.Helper()
	got, is := Match(tm(pattern), tm(x), s)
	expectSubst(t, "Match of "+pattern+" with "+x, got, is, append(slices.Clone(s), subst(want...)...))
}

func expectNoMatch(t *testing.T, pattern, x string, s ...string) {
	t.Helper()
	got, is := Match(tm(pattern), tm(x), subst(s...))
	expectNone(t, "Match of "+pattern+" with "+x, got, is)
}

func TestMatchVariables(t *testing.T) {
	for _, x := range []string{"x", "y", "a::x", "'1", "'x", "'nil", "(f)", "(f x)", "(f (g x) '(1 . 2))"} {
		expectMatch(t, "x", x, nil, "x", x)
		expectMatch(t, "a::x", x, nil, "a::x", x)
		expectMatch(t, "(f x)", "(f "+x+")", nil, "x", x)
		expectMatch(t, "(f x x)", "(f "+x+" "+x+")", nil, "x", x)
		expectMatch(t, "(f x (g y x))", "(f "+x+" (g '5 "+x+"))", nil, "x", x, "y", "'5")
		expectMatch(t, "x", x, subst("x", x))
		expectMatch(t, "(f x)", "(f "+x+")", subst("y", "x", "x", x))
	}
	expectNoMatch(t, "(f x x)", "(f a b)")
	expectNoMatch(t, "(f x x)", "(f x y)")
	expectNoMatch(t, "(f x x)", "(f x a::x)")
	expectNoMatch(t, "(f x x)", "(f '1 '2)")
	expectNoMatch(t, "(f x x)", "(f 'x x)")
	expectNoMatch(t, "(f x x)", "(f (x) x)")
	expectNoMatch(t, "(f x y x)", "(f '1 '1 '2)")
	expectNoMatch(t, "(f x (g x))", "(f '1 (g '2))")
	expectNoMatch(t, "(f (g x) x)", "(f (g x) (g x))")
}

// TestMatchDoesNotSubstituteInTheTerm: the variables of the term have nothing to do with those of the pattern.
func TestMatchDoesNotSubstituteInTheTerm(t *testing.T) {
	expectMatch(t, "x", "(f x)", nil, "x", "(f x)")
	expectMatch(t, "(f x y)", "(f y x)", nil, "x", "y", "y", "x")
	expectMatch(t, "(f x y z)", "(f (g y) x x)", nil, "x", "(g y)", "y", "x", "z", "x")
	expectMatch(t, "(f x x)", "(f (f x x) (f x x))", nil, "x", "(f x x)")
	expectMatch(t, "x", "(f x y)", subst("x", "(f x y)"))
	expectMatch(t, "(f x y)", "(f y x)", subst("x", "y"), "y", "x")
	expectNoMatch(t, "x", "'1", "x", "y", "y", "'1")
	expectNoMatch(t, "'1", "x", "x", "'1")
	expectNoMatch(t, "(f x)", "x", "x", "(f x)")
	expectNoMatch(t, "(f x)", "(f x)", "x", "y", "y", "x")
}

// TestMatchConstants: a constant of the pattern matches only the same constant.
func TestMatchConstants(t *testing.T) {
	l := []string{"'1", "'-1", "'1/2", "'2", "\"1\"", "'x", "'a::x", "'nil", "'t", "'(1)", "'(1 . 1)", "'(f x)", "'(f)", "x", "(f)", "(f x)", "(x)", "y"}
	for i, pattern := range l[:13] {
		for j, x := range l {
			if i == j {
				expectMatch(t, pattern, x, nil)
				expectMatch(t, pattern, x, subst("x", "'5", "y", pattern))
				expectMatch(t, "(f x "+pattern+" y)", "(f 'a "+x+" 'b)", nil, "x", "'a", "y", "'b")
			} else {
				expectNoMatch(t, pattern, x)
				expectNoMatch(t, pattern, x, "x", pattern, "y", pattern)
				expectNoMatch(t, "(f x "+pattern+" y)", "(f 'a "+x+" 'b)")
			}
		}
	}
}

func TestMatchCalls(t *testing.T) {
	l := []string{"(f)", "(g)", "(a::f)", "(f 'f)", "(f (f))", "(f 'f 'f)", "(f (f) 'f)", "(f 'f (f))", "(g 'f 'f)", "(f (f (f)))", "(f 'f 'f 'f 'f 'f 'f 'f 'f)", "(f 'f 'f 'f 'f 'f 'f 'f 'g)", "'f", "f"}
	for i, pattern := range l[:13] {
		for j, x := range l {
			if i == j {
				expectMatch(t, pattern, x, nil)
				expectMatch(t, "(g x "+pattern+" y)", "(g 'a "+x+" 'b)", nil, "x", "'a", "y", "'b")
			} else {
				expectNoMatch(t, pattern, x)
				expectNoMatch(t, pattern, x, "f", pattern)
				expectNoMatch(t, "(g x "+pattern+" y)", "(g 'a "+x+" 'b)")
			}
		}
	}
	expectNoMatch(t, "(f x)", "(f)")
	expectNoMatch(t, "(f x)", "(f x x)")
	expectNoMatch(t, "(f x y)", "(f x)")
	expectNoMatch(t, "(f x)", "(g x)")
	expectNoMatch(t, "(f x)", "(a::f x)")
	expectMatch(t, "(nil x)", "(nil y)", nil, "x", "y")
}

// TestMatchOrder: first s, then the variables that it does not assign, in the order in which they occur first.
func TestMatchOrder(t *testing.T) {
	pattern, x := "(f z (g y x) a::x y (h b z))", "(f '1 (g '2 '3) '4 '2 (h '5 '1))"
	expectMatch(t, pattern, x, nil, "z", "'1", "y", "'2", "x", "'3", "a::x", "'4", "b", "'5")
	expectMatch(t, pattern, x, []api.Assign{}, "z", "'1", "y", "'2", "x", "'3", "a::x", "'4", "b", "'5")
	expectMatch(t, pattern, x, subst("x", "'3"), "z", "'1", "y", "'2", "a::x", "'4", "b", "'5")
	expectMatch(t, pattern, x, subst("w", "z", "b", "'5", "v", "y", "y", "'2"), "z", "'1", "x", "'3", "a::x", "'4")
	expectMatch(t, pattern, x, subst("z", "'1", "y", "'2", "x", "'3", "a::x", "'4", "b", "'5"))
	expectMatch(t, pattern, x, subst("b", "'5", "a::x", "'4", "x", "'3", "y", "'2", "z", "'1"))
	for _, s := range [][]string{{"x", "'4"}, {"z", "z"}, {"w", "'1", "b", "'1"}, {"a::x", "'3"}} {
		expectNoMatch(t, pattern, x, s...)
	}
	expectMatch(t, "'1", "'1", subst("y", "x", "x", "y"))
	expectMatch(t, "(f)", "(f)", subst("y", "x", "x", "y"))
}

// TestMatchFirstAssignment: as in term.Substitute, the first assignment of a variable counts.
func TestMatchFirstAssignment(t *testing.T) {
	expectMatch(t, "(f x y)", "(f '1 '2)", subst("x", "'1", "x", "'3"), "y", "'2")
	expectNoMatch(t, "(f x y)", "(f '3 '2)", "x", "'1", "x", "'3")
}

func expectMatchAll(t *testing.T, patterns, l []string, s []api.Assign, want ...string) {
	t.Helper()
	got, is := MatchAll(tms(patterns...), tms(l...), s)
	expectSubst(t, "MatchAll", got, is, append(slices.Clone(s), subst(want...)...))
}

func TestMatchAll(t *testing.T) {
	expectMatchAll(t, nil, nil, nil)
	expectMatchAll(t, nil, []string{}, subst("x", "y"), []string{}...)
	expectMatchAll(t, []string{"x"}, []string{"(f x)"}, nil, "x", "(f x)")
	expectMatchAll(t, []string{"(f y)", "x", "y"}, []string{"(f '1)", "'2", "'1"}, nil, "y", "'1", "x", "'2")
	expectMatchAll(t, []string{"(f y)", "x", "y"}, []string{"(f '1)", "'2", "'1"}, subst("z", "x", "x", "'2"), "y", "'1")
	expectMatchAll(t, []string{"x", "x", "x"}, []string{"(g)", "(g)", "(g)"}, nil, "x", "(g)")
	many := slices.Repeat([]string{"x", "(f x y)"}, 50)
	expectMatchAll(t, many, slices.Repeat([]string{"'1", "(f '1 '2)"}, 50), nil, "x", "'1", "y", "'2")
	for _, c := range []struct{ patterns, l, s []string }{
		{[]string{"x"}, nil, nil}, {nil, []string{"x"}, nil}, {[]string{"x", "y"}, []string{"x"}, nil}, {[]string{"x"}, []string{"x", "y"}, nil}, {[]string{"x"}, []string{"x", "x"}, []string{"x", "x"}},
		{[]string{"x", "x"}, []string{"'1", "'2"}, nil}, {[]string{"x", "(f x)"}, []string{"'1", "(f '2)"}, nil}, {[]string{"x", "y"}, []string{"'1", "'2"}, []string{"y", "'1"}},
		{[]string{"x", "'1", "y"}, []string{"'1", "'2", "'3"}, nil}, {[]string{"'1", "x", "y", "'2"}, []string{"'1", "'1", "'1", "'1"}, nil},
	} {
		got, is := MatchAll(tms(c.patterns...), tms(c.l...), subst(c.s...))
		expectNone(t, "MatchAll", got, is)
	}
}

// TestRandomMatches: what Match returns is checked by term.Substitute; if Match finds nothing, no substitution by subterms of the term does it.
func TestRandomMatches(t *testing.T) {
	m := newMaker(1)
	found, failed := 0, 0
	for range 20000 {
		pattern, s := m.term(1+m.Intn(4)), m.substitution(2)
		x := m.term(1 + m.Intn(4))
		if m.Intn(4) > 0 {
			x = term.Substitute(pattern, append(slices.Clone(s), m.substitution(2)...))
		}
		if m.Intn(4) == 0 {
			x = term.Replace(x, pick(m.Rand, subterms(x)), m.term(1))
		}
		got, is := Match(pattern, x, s)
		want, exists := modelMatch(pattern, x, s)
		if is != exists || !sameAll(got, want) {
			t.Errorf("Match of %s with %s under %s: %s, %v, want %s, %v", text(pattern), text(x), shortAll(s), shortAll(got), is, shortAll(want), exists)
		}
		if is && !term.Equal(term.Substitute(pattern, got), x) {
			t.Errorf("Match of %s with %s: %s", text(pattern), text(x), shortAll(got))
		}
		if is {
			found++
		} else {
			failed++
		}
	}
	if found < 5000 || failed < 5000 {
		t.Errorf("%d matches and %d failures", found, failed)
	}
}

// modelMatch assigns to each variable of the pattern what is at its first position in x, and then checks all by term.Substitute.
func modelMatch(pattern, x api.Term, s []api.Assign) ([]api.Assign, bool) {
	s = slices.Clone(s)
	for _, v := range term.Variables(pattern) {
		if slices.ContainsFunc(s, func(a api.Assign) bool { return a.Var == v }) {
			continue
		}
		part, exists := term.At(x, firstPath(pattern, v))
		if !exists {
			return nil, false
		}
		s = append(s, api.Assign{Var: v, Term: part})
	}
	if !term.Equal(term.Substitute(pattern, s), x) {
		return nil, false
	}
	return s, true
}

// firstPath returns the path to the first occurrence of the variable v, which t contains.
func firstPath(t api.Term, v api.Symbol) []int {
	for i, a := range t.Args {
		if slices.Contains(term.Variables(a), v) {
			return append([]int{i}, firstPath(a, v)...)
		}
	}
	return nil
}

// TestRandomMatchAll: the same as matching one call with another one.
func TestRandomMatchAll(t *testing.T) {
	m := newMaker(2)
	for range 10000 {
		var patterns, l []api.Term
		s := m.substitution(2)
		all := append(slices.Clone(s), m.substitution(2)...)
		for range m.Intn(5) {
			patterns = append(patterns, m.term(1+m.Intn(3)))
			l = append(l, term.Substitute(patterns[len(patterns)-1], all))
		}
		if m.Intn(6) == 0 {
			l = append(l, m.term(1))
		}
		got, is := MatchAll(patterns, l, s)
		want, exists := modelMatch(call("f", patterns...), call("f", l...), s)
		if is != exists || !sameAll(got, want) {
			t.Errorf("MatchAll: %s, %v, want %s, %v", shortAll(got), is, shortAll(want), exists)
		}
	}
}

// TestMatchLargestTerms has valid patterns and terms at the limits.
func TestMatchLargestTerms(t *testing.T) {
	pattern, x := nest(api.MaxDepth-1, tm("x")), nest(api.MaxDepth-1, tm("'1"))
	got, is := Match(pattern, x, nil)
	expectSubst(t, "Match of the deepest terms", got, is, subst("x", "'1"))
	got, is = Match(nest(api.MaxDepth-2, tm("x")), x, nil)
	expectSubst(t, "Match of deep terms", got, is, subst("x", "(f '1)"))
	got, is = Match(pattern, nest(api.MaxDepth-2, tm("'1")), nil)
	expectNone(t, "Match of deep terms", got, is)
	l := vars("v", 2000)
	all := group(l)
	expectValidTerms(t, all)
	got, is = Match(all, group(slices.Repeat(tms("y"), 2000)), nil)
	if !is || len(got) != 2000 {
		t.Fatalf("Match of a term with 2000 variables: %d, %v", len(got), is)
	}
	for i, a := range got {
		if a.Var != l[i].Name || !same(a.Term, tm("y")) {
			t.Errorf("assignment %d: %s", i, shortAll(got[i:i+1]))
		}
	}
	both, is := MatchAll([]api.Term{all, all, tm("y")}, []api.Term{all, all, tm("'1")}, nil)
	if !is || len(both) != 2001 || !same(both[1999].Term, l[1999]) || both[2000].Var != sym("y") {
		t.Errorf("MatchAll of terms with 2000 variables: %d, %v", len(both), is)
	}
	constant := term.Const(chain(1499))
	got, is = Match(constant, constant, nil)
	expectSubst(t, "Match of the largest constant", got, is, nil)
	got, is = Match(constant, term.Const(chain(1498)), nil)
	expectNone(t, "Match of large constants", got, is)
}

// TestMatchBeyondTheLimits has terms that are not valid, but for which the description determines a result.
func TestMatchBeyondTheLimits(t *testing.T) {
	for _, n := range []int{11, 12, 13, 100, 1000} {
		pattern, x, y := double(n, tm("(g x)")), double(n, tm("(g '1)")), double(n, tm("(g '2)"))
		got, is := Match(pattern, x, nil)
		expectSubst(t, "Match", got, is, subst("x", "'1"))
		got, is = Match(pattern, x, subst("x", "'2"))
		expectNone(t, "Match", got, is)
		got, is = Match(call("f", pattern, pattern), call("f", x, y), nil)
		expectNone(t, "Match", got, is)
		got, is = Match(call("f", pattern, pattern, tm("y")), call("f", x, x, tm("x")), nil)
		expectSubst(t, "Match", got, is, subst("x", "'1", "y", "x"))
		got, is = Match(pattern, double(n-1, tm("(g '1)")), nil)
		expectNone(t, "Match", got, is)
		got, is = Match(double(n-1, tm("x")), pattern, nil)
		expectSubst(t, "Match", got, is, subst("x", "(d (g x) (g x))"))
	}
	deep := 1<<16 - 1
	got, is := Match(nest(deep, tm("x")), nest(deep, tm("'1")), nil)
	expectSubst(t, "Match of deep terms", got, is, subst("x", "'1"))
	wide := call("f", slices.Repeat(tms("x", "(g x)"), 5000)...)
	got, is = Match(wide, call("f", slices.Repeat(tms("y", "(g y)"), 5000)...), nil)
	expectSubst(t, "Match of long lists", got, is, subst("x", "y"))
	got, is = Match(wide, call("f", append(slices.Repeat(tms("y", "(g y)"), 4999), tms("y", "(g x)")...)...), nil)
	expectNone(t, "Match of long lists", got, is)
}

// TestMatchSharedMemory: the same memory in the pattern and in the term has different meanings.
func TestMatchSharedMemory(t *testing.T) {
	for _, n := range []int{2, 10, 11, 12, 13, 20} {
		big, gx, gy := double(n, tm("'1")), tm("(g x)"), tm("(g y)")
		got, is := Match(call("f", big, gx, gy, gy), call("f", big, tm("(g '1)"), gx, gx), nil)
		expectSubst(t, "Match", got, is, subst("x", "'1", "y", "x"))
		ga := tm("(g '1)")
		got, is = Match(call("f", big, gx, gy, gy), call("f", big, ga, gx, ga), nil)
		expectNone(t, "Match", got, is)
		got, is = Match(call("f", big, gx, gy), call("f", big, gy, gx), nil)
		expectSubst(t, "Match", got, is, subst("x", "y", "y", "x"))
		l := tms("x", "y", "x")
		pattern := call("f", big, call("g", l[:2]...), call("g", l...), call("g", l[1:]...))
		got, is = Match(pattern, call("f", big, tm("(g '1 '2)"), tm("(g '1 '2 '1)"), tm("(g '2 '1)")), nil)
		expectSubst(t, "Match of overlapping lists", got, is, subst("x", "'1", "y", "'2"))
		got, is = Match(pattern, call("f", big, tm("(g '1 '2)"), tm("(g '1 '2 '3)"), tm("(g '2 '1)")), nil)
		expectNone(t, "Match of overlapping lists", got, is)
	}
}

// TestOverlappingLists: lists that begin at the same memory are different if one of them is longer.
func TestOverlappingLists(t *testing.T) {
	for _, n := range []int{2, 11, 12, 13, 20} {
		overlapping := func(l ...string) api.Term {
			args := tms(l...)
			return call("f", double(n, tm("'1")), call("g", args[:2]...), call("g", args...), call("g", args[:1]...))
		}
		for _, k := range []int{0, 1, 2} {
			l, m := []string{"x", "y", "x"}, []string{"x", "y", "x"}
			m[k] = "z"
			got, is := Match(overlapping(l...), overlapping(m...), nil)
			if k == 1 {
				expectSubst(t, "Match of overlapping lists", got, is, subst("x", "x", "y", "z"))
			} else {
				expectNone(t, "Match of overlapping lists", got, is)
			}
			got, is = Unify(overlapping(l...), overlapping(m...))
			expectSubst(t, "Unify of overlapping lists", got, is, subst(l[k], "z"))
			expectCompare(t, overlapping(l...), overlapping(m...), -1)
		}
	}
}

// P9.3

func expectVariant(t *testing.T, a, b string, want bool) {
	t.Helper()
	if Variant(tm(a), tm(b)) != want || Variant(tm(b), tm(a)) != want {
		t.Errorf("Variant of %s and %s: %v, %v", a, b, Variant(tm(a), tm(b)), Variant(tm(b), tm(a)))
	}
}

func TestVariant(t *testing.T) {
	for _, l := range [][]string{
		{"x", "y", "a::x"}, {"'1"}, {"'x"}, {"'nil"}, {"(f)"}, {"(f x)", "(f y)", "(f a::x)", "(f f)"}, {"(g x)", "(g y)"}, {"(f 'x)"}, {"(f 'y)"},
		{"(f x y)", "(f y x)", "(f x z)", "(f z x)", "(f a::x x)", "(f x a::x)"}, {"(f x x)", "(f y y)", "(f a::y a::y)"}, {"(f x (g y x))", "(f y (g x y))", "(f z (g x z))"}, {"(f x (g y y))", "(f y (g x x))"}, {"(f x (g x y))", "(f y (g y z))"},
		{"(f x y z x)", "(f y z x y)", "(f z y x z)"}, {"(f x y z y)", "(f x z y z)"}, {"(f (g x) '1)"}, {"(f (g x) x)"}, {"(f x (x))", "(f y (x))"}, {"(f x (y))"},
	} {
		for _, a := range l {
			for _, b := range l {
				expectVariant(t, a, b, true)
			}
		}
	}
	l := []string{"x", "'1", "'x", "(f)", "(g)", "(f x)", "(g x)", "(f 'x)", "(f x y)", "(f x x)", "(f x '1)", "(f '1 x)", "(f (g x) y)", "(f (g x) x)", "(f y (g x))", "(f x x y)", "(f x y x)", "(f y x x)", "(f x y z)", "(f x x x)"}
	for i, a := range l {
		for j, b := range l {
			expectVariant(t, a, b, i == j)
		}
	}
}

// TestRandomVariants tries all substitutions of variables by variables.
func TestRandomVariants(t *testing.T) {
	m := newMaker(3)
	variants := 0
	for range 3000 {
		a, b := m.term(1+m.Intn(3)), m.term(1+m.Intn(3))
		if m.Intn(2) == 0 {
			var s []api.Assign
			for _, v := range m.variables {
				s = append(s, api.Assign{Var: v, Term: term.Var(pick(m.Rand, m.variables))})
			}
			b = term.Substitute(a, s)
		}
		want := becomes(a, b, m.variables, nil) && becomes(b, a, m.variables, nil)
		if Variant(a, b) != want {
			t.Errorf("Variant of %s and %s: %v", text(a), text(b), !want)
		}
		if want {
			variants++
		}
	}
	if variants < 500 || variants > 2500 {
		t.Errorf("%d variants", variants)
	}
}

// becomes reports whether a becomes b under a substitution of the variables by some of them that begins with s.
func becomes(a, b api.Term, variables []api.Symbol, s []api.Assign) bool {
	if len(s) == len(variables) {
		return term.Equal(term.Substitute(a, s), b)
	}
	for _, v := range variables {
		if becomes(a, b, variables, append(slices.Clone(s), api.Assign{Var: variables[len(s)], Term: term.Var(v)})) {
			return true
		}
	}
	return false
}

// P9.5

func expectFresh(t *testing.T, l []string, base, want string) {
	t.Helper()
	if got := Fresh(tms(l...), sym(base)); got != sym(want) {
		t.Errorf("Fresh of %v, %s: %v, want %s", l, base, got, want)
	}
}

func TestFresh(t *testing.T) {
	expectFresh(t, nil, "x", "x-1")
	expectFresh(t, nil, "a::x", "a::x-1")
	expectFresh(t, []string{"x"}, "x", "x-1")
	expectFresh(t, []string{"x-1"}, "x", "x-2")
	expectFresh(t, []string{"x-2"}, "x", "x-1")
	expectFresh(t, []string{"x-1", "x-3"}, "x", "x-2")
	expectFresh(t, []string{"x-3", "x-2", "x-1"}, "x", "x-4")
	expectFresh(t, []string{"(f (g x-1) y)", "'x-2", "(f (f x-2 '1))"}, "x", "x-3")
	expectFresh(t, []string{"(f a::x-1 x-2)"}, "x", "x-1")
	expectFresh(t, []string{"(f a::x-1 x-2)"}, "a::x", "a::x-2")
	expectFresh(t, []string{"'x-1", "(x-1 y-1)", "(f 'x-1)"}, "x", "x-1")
	expectFresh(t, []string{"x-01", "x-0", "x--1", "x1", "x-1-1", "y-1"}, "x", "x-1")
	expectFresh(t, []string{"x-1", "x-1-1"}, "x-1", "x-1-2")
	expectFresh(t, []string{"x-1", "x-1", "(f x-1 x-1)"}, "x", "x-2")
	var l []string
	for _, v := range vars("v-", 131)[1:] {
		l = append(l, "(f "+v.Name.Name+")")
	}
	expectFresh(t, l, "v", "v-131")
	expectFresh(t, append(l[:9:9], l[10:]...), "v", "v-10")
	expectFresh(t, append(l[:98:98], l[99:]...), "v", "v-99")
	expectFresh(t, l[1:], "v", "v-1")
}

// TestFreshNames: nothing is checked; the name may be longer than a valid one.
func TestFreshNames(t *testing.T) {
	for _, base := range []api.Symbol{{}, {Package: "lisp"}, {Name: "x"}, {Package: "A b", Name: " \x00\xff"}, {Package: "lisp", Name: "nil"}, {Package: "a", Name: "abcdefghijabcdefghijabcdefghijabcdefghij"}} {
		first := api.Symbol{Package: base.Package, Name: base.Name + "-1"}
		second := api.Symbol{Package: base.Package, Name: base.Name + "-2"}
		if got := Fresh(tms("x", "(f y)"), base); got != first {
			t.Errorf("Fresh of %v: %v", base, got)
		}
		if got := Fresh([]api.Term{tm("x"), call("f", tm("y"), term.Var(first))}, base); got != second {
			t.Errorf("Fresh of %v: %v", base, got)
		}
	}
}
