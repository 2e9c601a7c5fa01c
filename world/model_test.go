package world

import (
	"math/rand"
	"slices"
	"strings"
	"testing"

	"lispprover/api"
	"lispprover/primitive"
)

// Random worlds, most of them not valid, against a model that follows the chapter word by word; and the consequences (P10.6)

// maker makes worlds and terms of few names, so that the same names occur often.
type maker struct {
	*rand.Rand
	names []api.Symbol
	vars  []api.Symbol
}

func newMaker(seed int64) *maker {
	return &maker{rand.New(rand.NewSource(seed)), syms("f g h i a::f a::g car cons"), syms("x y a::x")}
}

func (m *maker) term(depth int) api.Term {
	if depth == 1 || m.Intn(5) == 0 {
		if m.Intn(4) == 0 {
			return api.Term{Kind: api.Constant, Value: obj("(f x)")}
		}
		return api.Term{Kind: api.Variable, Name: pick(m.Rand, m.vars)}
	}
	t := api.Term{Kind: api.Call, Name: pick(m.Rand, m.names)}
	for range m.Intn(3) {
		t.Args = append(t.Args, m.term(depth-1))
	}
	return t
}

func (m *maker) function() api.Function {
	f := api.Function{Name: pick(m.Rand, m.names), Params: m.vars[:m.Intn(3)], Class: 1 + m.Intn(4)*m.Intn(2), Guard: tm("t")}
	if m.Intn(4) > 0 {
		f.Body = m.term(1 + m.Intn(3))
	}
	return f
}

// entry returns an entry of any kind that may have several kinds of parts.
func (m *maker) entry() api.Entry {
	e := api.Entry{Kind: pick(m.Rand, []int{-1, 0, 1, 2, 3, 3, 3, 4, 5, 6, 7, 8, 9, 10, 11}), Name: pick(m.Rand, append(m.names, m.vars...))}
	for range m.Intn(3) {
		e.Functions = append(e.Functions, m.function())
	}
	if m.Intn(2) == 0 {
		e.Macro.Name = pick(m.Rand, m.names)
		e.Package.Name = pick(m.Rand, []string{"a", "b", "lisp", ""})
	}
	return e
}

func (m *maker) world() []api.Entry {
	var w []api.Entry
	for range m.Intn(7) {
		w = append(w, m.entry())
	}
	return w
}

// modelFunctions returns the functions of w, each with the index of its entry.
func modelFunctions(w []api.Entry) ([]api.Function, []int) {
	var l []api.Function
	var owners []int
	for i, e := range w {
		if slices.Contains([]int{3, 5, 6, 7}, e.Kind) {
			for _, f := range e.Functions {
				l, owners = append(l, f), append(owners, i)
			}
		}
	}
	return l, owners
}

func modelArity(w []api.Entry, f api.Symbol) (int, bool) {
	if slices.Contains(primitive.Names(), f) {
		return primitive.Arity(f)
	}
	l, _ := modelFunctions(w)
	for _, g := range l {
		if g.Name == f {
			return len(g.Params), true
		}
	}
	return 0, false
}

// modelCalls returns the calls of t, in order.
func modelCalls(t api.Term) []api.Term {
	if t.Kind != api.Call {
		return nil
	}
	l := []api.Term{t}
	for _, a := range t.Args {
		l = append(l, modelCalls(a)...)
	}
	return l
}

func modelKnown(w []api.Entry, t api.Term) api.Errno {
	for _, c := range modelCalls(t) {
		n, is := modelArity(w, c.Name)
		if !is {
			return api.ErrFunction
		}
		if n != len(c.Args) {
			return api.ErrArity
		}
	}
	return api.OK
}

// modelDepends repeats what the chapter says until nothing is added.
func modelDepends(w []api.Entry, l []api.Term) []api.Symbol {
	found := map[api.Symbol]bool{}
	functions, _ := modelFunctions(w)
	for size := -1; size < len(found); {
		size = len(found)
		terms := slices.Clone(l)
		done := map[api.Symbol]bool{}
		for _, f := range functions {
			if found[f.Name] && !done[f.Name] {
				terms = append(terms, f.Body)
			}
			done[f.Name] = true
		}
		for _, t := range terms {
			for _, c := range modelCalls(t) {
				if !slices.Contains(primitive.Names(), c.Name) {
					found[c.Name] = true
				}
			}
		}
	}
	var result []api.Symbol
	for f := range found {
		result = append(result, f)
	}
	slices.SortFunc(result, func(a, b api.Symbol) int {
		return strings.Compare(a.Name+"\x00"+a.Package, b.Name+"\x00"+b.Package)
	})
	return result
}

func modelExecutable(w []api.Entry, f api.Symbol) bool {
	if slices.Contains(primitive.Names(), f) {
		return true
	}
	isDefined := func(g api.Symbol) (api.Function, bool) {
		l, _ := modelFunctions(w)
		i := slices.IndexFunc(l, func(h api.Function) bool { return h.Name == g })
		if i < 0 {
			return api.Function{}, false
		}
		return l[i], l[i].Class == api.Defined
	}
	function, is := isDefined(f)
	if !is {
		return false
	}
	for _, g := range modelDepends(w, []api.Term{function.Body}) {
		if _, is := isDefined(g); !is {
			return false
		}
	}
	return true
}

func modelTaken(w []api.Entry, name api.Symbol) bool {
	l := append(primitive.Names(), syms("quote nil t")...)
	functions, _ := modelFunctions(w)
	for _, f := range functions {
		l = append(l, f.Name)
	}
	for _, e := range w {
		l = append(l, e.Name)
		if e.Kind == 2 {
			l = append(l, e.Macro.Name)
		}
	}
	return slices.Contains(l, name)
}

func (m *maker) expectNames(t *testing.T, w []api.Entry) {
	t.Helper()
	functions, owners := modelFunctions(w)
	for _, name := range append(m.names, m.vars...) {
		what := name.Package + "::" + name.Name
		arity, has := modelArity(w, name)
		if got, is := Arity(w, name); got != arity || is != has {
			t.Fatalf("Arity of %s: %d, %v, want %d, %v", what, got, is, arity, has)
		}
		expectBool(t, "Taken of "+what, Taken(w, name), modelTaken(w, name))
		expectBool(t, "Executable of "+what, Executable(w, name), modelExecutable(w, name))
		i := slices.IndexFunc(functions, func(f api.Function) bool { return f.Name == name })
		owner, is := Owner(w, name)
		function, has := Function(w, name)
		if i < 0 {
			expectNone(t, "Owner of "+what, owner, is)
			expectNone(t, "Function of "+what, function, has)
			continue
		}
		expectIndex(t, "Owner of "+what, owner, is, owners[i])
		if !has || !sameList([]api.Function{function}, functions[i:i+1]) {
			t.Fatalf("Function of %s: %+v, %v", what, function, has)
		}
	}
}

func TestRandomWorlds(t *testing.T) {
	m := newMaker(1)
	for range 3000 {
		w := m.world()
		m.expectNames(t, w)
		for range 5 {
			l := []api.Term{m.term(4), m.term(3)}
			expectErr(t, "Known", Known(w, l[0]), modelKnown(w, l[0]))
			expectSyms(t, "Depends", Depends(w, l...), modelDepends(w, l))
			expectSyms(t, "Depends", Depends(w, l[1]), modelDepends(w, l[1:]))
		}
	}
}

// candidate returns an entry that often extends a valid world.
func (m *maker) candidate() api.Entry {
	f := m.function()
	f.Params = m.vars
	for f.Body.Kind == 0 {
		f.Body = m.term(3)
	}
	g := api.Function{Name: pick(m.Rand, m.names), Params: m.vars[:1], Class: api.Defined, Guard: tm("t"), Body: tm("x")}
	switch m.Intn(8) {
	case 0:
		return api.Entry{Kind: api.EntryMacro, Name: f.Name, Macro: api.Macro{Name: f.Name, Params: m.vars, Body: f.Body}}
	case 1:
		f.Class, f.Body = api.Constrained, api.Term{}
		return api.Entry{Kind: api.EntryEncapsule, Name: pick(m.Rand, m.names), Functions: []api.Function{f}, Formulas: []api.Term{m.term(2)}, Local: []api.Entry{m.entry()}}
	case 2:
		f.Class, f.Body = api.Choice, api.Term{}
		return api.Entry{Kind: api.EntryChoice, Name: f.Name, Functions: []api.Function{f}, Formulas: []api.Term{m.term(2)}}
	case 3:
		return api.Entry{Kind: api.EntryTheorem, Name: pick(m.Rand, m.vars), Formulas: []api.Term{m.term(3)}}
	case 4:
		f.Class = api.Defined
		return functions(f, g)
	case 5:
		return pack(pick(m.Rand, []string{"a", "b", "c"}), "car")
	}
	f.Class = api.Defined
	return functions(f)
}

// TestConsequences: what was there before an extension is there afterwards, and every prefix of a valid world is valid.
func TestConsequences(t *testing.T) {
	m := newMaker(2)
	extensions, longest := 0, 0
	for range 600 {
		var w []api.Entry
		for range 25 {
			e := m.candidate()
			longer, err := Extend(w, e)
			expectErr(t, "Extend", err, Check(w, e))
			if err != api.OK {
				continue
			}
			extensions++
			expectBool(t, "Valid of the extended world", Valid(longer), true)
			m.expectKept(t, w, longer)
			w = longer
		}
		longest = max(longest, len(w))
		for n := range w {
			expectBool(t, "Valid of a prefix", Valid(w[:n]), true)
			back, is := Undo(w, w[n].Name)
			if !is || len(back) != n {
				t.Fatalf("Undo to entry %d: %d, %v", n, len(back), is)
			}
		}
	}
	if extensions < 1000 || longest < 5 {
		t.Errorf("the test needs more extensions than %d, and longer worlds than %d", extensions, longest)
	}
}

// expectKept compares the functions and the macros of w, and what Known returns OK for, with those of longer.
func (m *maker) expectKept(t *testing.T, w, longer []api.Entry) {
	t.Helper()
	for _, name := range m.names {
		before, was := Function(w, name)
		after, is := Function(longer, name)
		if was && (!is || !sameList([]api.Function{before}, []api.Function{after})) {
			t.Fatalf("the function %s was changed", name.Name)
		}
		macro, was := Macro(w, name)
		now, is := Macro(longer, name)
		if was && (!is || !sameList([]api.Macro{macro}, []api.Macro{now})) {
			t.Fatalf("the macro %s was changed", name.Name)
		}
		if Taken(w, name) && !Taken(longer, name) {
			t.Fatalf("the name %s is not taken any more", name.Name)
		}
	}
	for range 5 {
		x := m.term(3)
		if Known(w, x) == api.OK && Known(longer, x) != api.OK {
			t.Fatal("a term is not known any more")
		}
	}
}
