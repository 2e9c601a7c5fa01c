package term

import (
	"math/rand"
	"regexp"
	"slices"
	"strings"
	"testing"

	"lispprover/api"
	"lispprover/object"
	"lispprover/symbol"
)

// Random terms: every function against a model that works on the texts of terms, and P8.6

// pick returns one of these.
func pick[T any](r *rand.Rand, l []T) T {
	return l[r.Intn(len(l))]
}

// maker makes random valid terms of few names, so that the same parts occur often.
type maker struct {
	*rand.Rand
	variables, functions []api.Symbol
	constants            []api.Object
}

func newMaker(seed int64) *maker {
	m := &maker{Rand: rand.New(rand.NewSource(seed)), variables: syms("x y z a::x f"), functions: syms("f g a::f x h nil")}
	for _, s := range []string{"nil", "t", "x", "1", "-1/2", "\"x\"", "(x . y)", "(f x)", "(quote x)", "(1 2)", "a::x"} {
		m.constants = append(m.constants, obj(s))
	}
	return m
}

func (m *maker) term(depth int) api.Term {
	if depth == 1 || m.Intn(4) == 0 {
		if m.Intn(3) > 0 {
			return api.Term{Kind: api.Variable, Name: pick(m.Rand, m.variables)}
		}
		return api.Term{Kind: api.Constant, Value: pick(m.Rand, m.constants)}
	}
	t := api.Term{Kind: api.Call, Name: pick(m.Rand, m.functions)}
	for range m.Intn(4) {
		t.Args = append(t.Args, m.term(depth-1))
	}
	return t
}

// substitution returns assignments, sometimes several of one variable.
func (m *maker) substitution() []api.Assign {
	var s []api.Assign
	for range m.Intn(6) {
		s = append(s, api.Assign{Var: pick(m.Rand, m.variables), Term: m.term(1 + m.Intn(3))})
	}
	return s
}

// lambdas returns replacements of functions, sometimes several of one function, and sometimes with one parameter twice.
func (m *maker) lambdas() []api.Lambda {
	var l []api.Lambda
	for range m.Intn(5) {
		f := api.Lambda{Name: pick(m.Rand, m.functions), Body: m.term(1 + m.Intn(3))}
		for range m.Intn(4) {
			f.Params = append(f.Params, pick(m.Rand, m.variables))
		}
		l = append(l, f)
	}
	return l
}

// inText replaces variables in the text of a term by other texts, all at once; the first text of a variable counts.
func inText(s string, variables []api.Symbol, texts []string) string {
	var pairs []string
	for i, v := range variables {
		pairs = append(pairs, text(api.Term{Kind: api.Variable, Name: v}), texts[i])
	}
	return strings.NewReplacer(pairs...).Replace(s)
}

// instanceText returns the text of the instance of a term.
func instanceText(t api.Term, l []api.Lambda) string {
	if t.Kind != api.Call {
		return text(t)
	}
	var args []string
	for _, a := range t.Args {
		args = append(args, instanceText(a, l))
	}
	for _, f := range l {
		if f.Name != t.Name {
			continue
		}
		if len(f.Params) == len(args) {
			return inText(text(f.Body), f.Params, args)
		}
		break
	}
	return strings.Join(append([]string{"[f " + t.Name.Package + " " + t.Name.Name}, args...), " ") + "]"
}

// namesInText returns the names of the subterms whose texts begin like this, each once.
func namesInText(s, begin string) []api.Symbol {
	var l []api.Symbol
	for _, m := range regexp.MustCompile(`\[`+begin+` (\S+) ([^\s\]]+)`).FindAllStringSubmatch(s, -1) {
		if name := (api.Symbol{Package: m[1], Name: m[2]}); !slices.Contains(l, name) {
			l = append(l, name)
		}
	}
	return l
}

// spot is a subterm and the path to it.
type spot struct {
	path []int
	term api.Term
}

// spots returns the subterms of t, in order.
func spots(t api.Term, path []int) []spot {
	l := []spot{{slices.Clone(path), t}}
	for i, a := range t.Args {
		l = append(l, spots(a, append(slices.Clone(path), i))...)
	}
	return l
}

// putText returns the text of t with the subterm at path replaced by a text.
func putText(t api.Term, path []int, s string) string {
	if len(path) == 0 {
		return s
	}
	parts := []string{"[f " + t.Name.Package + " " + t.Name.Name}
	for i, a := range t.Args {
		if i == path[0] {
			parts = append(parts, putText(a, path[1:], s))
		} else {
			parts = append(parts, text(a))
		}
	}
	return strings.Join(parts, " ") + "]"
}

// lispText returns the text of the object that represents t.
func lispText(t api.Term) string {
	name := t.Name.Package + "::" + t.Name.Name
	switch t.Kind {
	case api.Variable:
		return name
	case api.Constant:
		return "(quote " + objectText(t.Value, 20) + ")"
	}
	for _, a := range t.Args {
		name += " " + lispText(a)
	}
	return "(" + name + ")"
}

func expectText(t *testing.T, what string, got api.Term, want string) {
	t.Helper()
	if text(got) != want {
		t.Errorf("%s: %s, want %s", what, text(got), want)
	}
}

func TestRandomSubstitutions(t *testing.T) {
	m := newMaker(1)
	for range 20000 {
		x, s := m.term(1+m.Intn(5)), m.substitution()
		var variables []api.Symbol
		var texts []string
		for _, a := range s {
			variables, texts = append(variables, a.Var), append(texts, text(a.Term))
		}
		before := text(x)
		expectText(t, "Substitute in "+before, Substitute(x, s), inText(before, variables, texts))
		expectText(t, "the term before", x, before)
	}
}

func TestRandomReplacements(t *testing.T) {
	m := newMaker(2)
	found := 0
	for range 20000 {
		x, new := m.term(1+m.Intn(5)), m.term(1+m.Intn(3))
		old := m.term(1 + m.Intn(2))
		if m.Intn(2) == 0 {
			old = pick(m.Rand, spots(x, nil)).term
		}
		before := text(x)
		expectText(t, "Replace of "+text(old)+" in "+before, Replace(x, old, new), strings.ReplaceAll(before, text(old), text(new)))
		expectOccurs(t, old, x, strings.Contains(before, text(old)))
		expectText(t, "the term before", x, before)
		if strings.Contains(before, text(old)) {
			found++
		}
	}
	if found < 5000 || found > 15000 {
		t.Errorf("%d of the terms contain the other one", found)
	}
}

func TestRandomInstances(t *testing.T) {
	m := newMaker(3)
	for range 20000 {
		x, l := m.term(1+m.Intn(5)), m.lambdas()
		before := text(x)
		expectText(t, "Instance of "+before, Instance(x, l), instanceText(x, l))
		expectText(t, "the term before", x, before)
	}
}

func TestRandomNames(t *testing.T) {
	m := newMaker(4)
	for range 10000 {
		var l []api.Term
		var texts []string
		for range m.Intn(4) {
			l = append(l, m.term(1+m.Intn(4)))
			texts = append(texts, text(l[len(l)-1]))
		}
		s := strings.Join(texts, " ")
		if got := Variables(l...); !slices.Equal(got, namesInText(s, "v")) {
			t.Errorf("Variables of %s: %v", s, got)
		}
		if got := Functions(l...); !slices.Equal(got, namesInText(s, "f")) {
			t.Errorf("Functions of %s: %v", s, got)
		}
		for _, x := range l {
			expectGround(t, x, !strings.Contains(text(x), "[v"))
		}
	}
}

func TestRandomPaths(t *testing.T) {
	m := newMaker(5)
	for range 3000 {
		x, new := m.term(1+m.Intn(4)), m.term(1+m.Intn(3))
		before := text(x)
		for _, p := range spots(x, nil) {
			got, is := At(x, p.path)
			expectFound(t, "At of "+before, got, is, p.term)
			got, is = Put(x, p.path, new)
			if !is {
				t.Errorf("Put of %s: false", before)
			}
			expectText(t, "Put of "+before, got, putText(x, p.path, text(new)))
			expectText(t, "the term before", x, before)
			for _, i := range []int{-1, len(p.term.Args), len(p.term.Args) + 3} {
				path := append(slices.Clone(p.path), i)
				got, is = At(x, path)
				expectNone(t, "At of "+before, got, is)
				got, is = Put(x, path, new)
				expectNone(t, "Put of "+before, got, is)
			}
		}
	}
}

func TestRandomSizes(t *testing.T) {
	m := newMaker(6)
	for range 5000 {
		x := m.term(1 + m.Intn(6))
		nodes, depth := 0, 0
		for _, p := range spots(x, nil) {
			depth = max(depth, len(p.path)+1)
			if p.term.Kind == api.Constant {
				nodes += object.Nodes(p.term.Value)
			} else {
				nodes++
			}
		}
		expectNodes(t, x, nodes)
		expectDepth(t, x, depth)
		expectValid(t, x, true)
	}
}

func TestRandomEquality(t *testing.T) {
	m := newMaker(7)
	equal := 0
	for range 50000 {
		x, y := m.term(1+m.Intn(3)), m.term(1+m.Intn(3))
		expectEqual(t, x, y, text(x) == text(y))
		if text(x) == text(y) {
			equal++
		}
		expectEqual(t, x, fromObject(obj(lispText(x))), true)
	}
	if equal < 1000 {
		t.Errorf("%d of the terms are equal", equal)
	}
}

// TestRandomQuotes also tests P8.6: Unquote(Quote(x)) is x.
func TestRandomQuotes(t *testing.T) {
	m := newMaker(8)
	for range 10000 {
		x := m.term(1 + m.Intn(5))
		o := Quote(x)
		if !object.Equal(o, obj(lispText(x))) {
			t.Errorf("Quote of %s: %s", text(x), objectText(o, 9))
		}
		expectUnquote(t, o, x)
		expectUnquote(t, obj(lispText(x)), x)
	}
}

// TestRandomQuotesOfQuote: no call of quote is represented.
func TestRandomQuotesOfQuote(t *testing.T) {
	m := newMaker(9)
	m.functions = append(m.functions, sym("quote"))
	calls := 0
	for range 10000 {
		x := m.term(1 + m.Intn(5))
		got, is := Unquote(Quote(x))
		if !slices.Contains(Functions(x), sym("quote")) {
			expectFound(t, "Unquote", got, is, x)
			continue
		}
		calls++
		if is && same(got, x) {
			t.Errorf("Unquote of the object that represents %s", text(x))
		}
		// what looks like a constant represents this constant, if it is valid
		if is && (!Valid(got) || !object.Equal(Quote(got), Quote(x))) {
			t.Errorf("Unquote of the object that represents %s: %s", text(x), text(got))
		}
	}
	if calls < 1000 {
		t.Errorf("%d of the terms call quote", calls)
	}
}

// TestRandomObjects: an object represents a term just if it looks like one.
func TestRandomObjects(t *testing.T) {
	m := newMaker(10)
	terms := 0
	for range 100000 {
		o := m.object(1 + m.Intn(4))
		got, is := Unquote(o)
		if represents(o) != is {
			t.Errorf("Unquote of %s: %v", objectText(o, 9), is)
		}
		if is {
			expectText(t, "Unquote of "+objectText(o, 9), got, text(fromObject(o)))
			terms++
		} else {
			expectNone(t, "Unquote of "+objectText(o, 9), got, is)
		}
	}
	if terms < 5000 || terms > 95000 {
		t.Errorf("%d of the objects represent terms", terms)
	}
}

// object returns a random object; many of them represent terms.
func (m *maker) object(depth int) api.Object {
	if depth == 1 || m.Intn(3) == 0 {
		return obj(pick(m.Rand, []string{"x", "y", "a::x", "f", "x", "y", "quote", "nil", "t", "1", "\"x\""}))
	}
	end := obj("nil")
	if m.Intn(12) == 0 {
		end = m.object(depth - 1)
	}
	for range m.Intn(3) {
		end = object.Cons(m.object(depth-1), end)
	}
	return object.Cons(obj(pick(m.Rand, []string{"f", "g", "quote", "f", "a::g", "nil", "1"})), end)
}

// represents reports whether a valid object represents a term, if this does not exceed the limits.
func represents(o api.Object) bool {
	if o.Kind == api.KindSymbol {
		return o.Sym != sym("nil") && o.Sym != sym("t")
	}
	l, proper := object.Items(o)
	if !proper || l[0].Kind != api.KindSymbol {
		return false
	}
	if l[0].Sym == sym("quote") {
		return len(l) == 2
	}
	return len(l) <= 9 && !slices.ContainsFunc(l[1:], func(o api.Object) bool { return !represents(o) })
}

// TestIdentity: P8.6: Substitute with the variables assigned to themselves returns the term.
func TestIdentity(t *testing.T) {
	m := newMaker(11)
	for range 5000 {
		x := m.term(1 + m.Intn(5))
		var s []api.Assign
		for _, v := range Variables(x) {
			s = append(s, api.Assign{Var: v, Term: Var(v)})
		}
		expectTerm(t, "Substitute", Substitute(x, s), x)
		expectTerm(t, "Substitute", Substitute(x, nil), x)
		expectTerm(t, "Replace", Replace(x, x, x), x)
		expectTerm(t, "Instance", Instance(x, nil), x)
	}
	for _, x := range []api.Term{nest(api.MaxDepth-1, tm("x")), bushy(api.MaxNodes)} {
		expectTerm(t, "Substitute", Substitute(x, subst("x", "x")), x)
	}
	for _, s := range goodSymbols() {
		x := Var(s)
		got, is := Unquote(Quote(x))
		expectFound(t, "Unquote", got, is, x)
		if s != sym("quote") {
			x = App(s, x, App(s))
			got, is = Unquote(Quote(x))
			expectFound(t, "Unquote", got, is, x)
		}
		if !symbol.Valid(s) {
			t.Errorf("the symbol %v is not valid", s)
		}
	}
}
