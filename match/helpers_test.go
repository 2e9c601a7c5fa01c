package match

import (
	"math/rand"
	"reflect"
	"strings"
	"testing"

	"lispprover/api"
	"lispprover/object"
	"lispprover/reader"
	"lispprover/term"
)

func packages() []api.Package {
	return []api.Package{{Name: "lisp"}, {Name: "a"}, {Name: "b"}, {Name: "z"}}
}

// obj reads an object; symbols without a package are in lisp.
func obj(s string) api.Object {
	o, err := reader.One(packages(), "lisp", s)
	if err.Err != api.OK {
		panic("no object: " + s)
	}
	return o
}

func sym(s string) api.Symbol {
	return obj(s).Sym
}

func syms(s string) []api.Symbol {
	var l []api.Symbol
	for _, word := range strings.Fields(s) {
		l = append(l, sym(word))
	}
	return l
}

// tm reads a term: symbols are variables, lists are calls, everything else is a constant, what is quoted, too.
func tm(s string) api.Term {
	return fromObject(obj(s))
}

func tms(l ...string) []api.Term {
	var r []api.Term
	for _, s := range l {
		r = append(r, tm(s))
	}
	return r
}

func fromObject(o api.Object) api.Term {
	if o.Kind == api.KindSymbol && o.Sym != (api.Symbol{Package: "lisp", Name: "nil"}) && o.Sym != (api.Symbol{Package: "lisp", Name: "t"}) {
		return api.Term{Kind: api.Variable, Name: o.Sym}
	}
	if o.Kind != api.KindCons {
		return api.Term{Kind: api.Constant, Value: o}
	}
	if o.Pair[0].Sym == (api.Symbol{Package: "lisp", Name: "quote"}) {
		return api.Term{Kind: api.Constant, Value: o.Pair[1].Pair[0]}
	}
	t := api.Term{Kind: api.Call, Name: o.Pair[0].Sym}
	for o = o.Pair[1]; o.Kind == api.KindCons; o = o.Pair[1] {
		t.Args = append(t.Args, fromObject(o.Pair[0]))
	}
	return t
}

// subst reads a substitution: a variable, its term, a variable, its term, and so on.
func subst(l ...string) []api.Assign {
	var s []api.Assign
	for i := 0; i < len(l); i += 2 {
		s = append(s, api.Assign{Var: sym(l[i]), Term: tm(l[i+1])})
	}
	return s
}

// text returns a text for a term; different terms have different texts.
func text(t api.Term) string {
	return textUpTo(t, 500)
}

// textUpTo returns the text of a term; depth keeps it from going through one without an end.
func textUpTo(t api.Term, depth int) string {
	if depth == 0 {
		return ".."
	}
	switch t.Kind {
	case api.Variable:
		return t.Name.Package + "::" + t.Name.Name
	case api.Constant:
		return "'" + objectText(t.Value, 20)
	case api.Call:
		s := "(" + t.Name.Package + "::" + t.Name.Name
		for _, a := range t.Args {
			s += " " + textUpTo(a, depth-1)
		}
		return s + ")"
	}
	return "?"
}

func objectText(o api.Object, depth int) string {
	switch {
	case depth == 0:
		return ".."
	case o.Kind == api.KindNumber:
		return o.Num + "/" + o.Den
	case o.Kind == api.KindString:
		return "\"" + o.Text + "\""
	case o.Kind == api.KindSymbol:
		return o.Sym.Package + "::" + o.Sym.Name
	case len(o.Pair) == 2:
		return "(" + objectText(o.Pair[0], depth-1) + " . " + objectText(o.Pair[1], depth-1) + ")"
	}
	return "?"
}

// short returns a text for a term that is good enough for a message.
func short(t api.Term) string {
	s := textUpTo(t, 6)
	return s[:min(len(s), 300)]
}

func shortAll(s []api.Assign) string {
	var l []string
	for _, a := range s {
		l = append(l, a.Var.Package+"::"+a.Var.Name+" = "+short(a.Term))
	}
	return "{" + strings.Join(l, ", ") + "}"
}

// same reports whether two terms are equal, field by field; an empty list is as good as none.
func same(a, b api.Term) bool {
	if a.Kind != b.Kind || a.Name != b.Name || !reflect.DeepEqual(a.Value, b.Value) || len(a.Args) != len(b.Args) {
		return false
	}
	for i := range a.Args {
		if !same(a.Args[i], b.Args[i]) {
			return false
		}
	}
	return true
}

// sameAll reports whether two substitutions are equal, assignment by assignment.
func sameAll(s, want []api.Assign) bool {
	if len(s) != len(want) {
		return false
	}
	for i := range s {
		if s[i].Var != want[i].Var || !same(s[i].Term, want[i].Term) {
			return false
		}
	}
	return true
}

// expectSubst expects a substitution and true.
func expectSubst(t *testing.T, what string, got []api.Assign, is bool, want []api.Assign) {
	t.Helper()
	if !is || !sameAll(got, want) {
		t.Errorf("%s: %s, %v, want %s", what, shortAll(got), is, shortAll(want))
	}
}

// expectNone expects false, and no substitution beside it.
func expectNone(t *testing.T, what string, got []api.Assign, is bool) {
	t.Helper()
	if is || len(got) != 0 {
		t.Errorf("%s: %s, %v, want none", what, shortAll(got), is)
	}
}

func call(name string, args ...api.Term) api.Term {
	return api.Term{Kind: api.Call, Name: sym(name), Args: args}
}

// vars returns the variables with this name and the numbers below n.
func vars(name string, n int) []api.Term {
	var l []api.Term
	for i := range n {
		l = append(l, api.Term{Kind: api.Variable, Name: api.Symbol{Package: "lisp", Name: name + object.Int(i).Num}})
	}
	return l
}

// group returns a term without constants that contains the terms l, in order, and has no more arguments anywhere than are allowed.
func group(l []api.Term) api.Term {
	for len(l) > api.MaxParams {
		var groups []api.Term
		for i := 0; i < len(l); i += api.MaxParams {
			groups = append(groups, call("p", l[i:min(i+api.MaxParams, len(l))]...))
		}
		l = groups
	}
	return call("p", l...)
}

// nest returns the term (f (f .. x)) with n calls; its depth is n + 1.
func nest(n int, x api.Term) api.Term {
	for range n {
		x = call("f", x)
	}
	return x
}

// double returns a term of n levels of calls whose two arguments are equal to each other; it has far more nodes than memory.
func double(n int, x api.Term) api.Term {
	for range n {
		x = call("d", x, x)
	}
	return x
}

// endless returns a term that contains itself after n levels.
func endless(n int) api.Term {
	first := call("e", tm("'1"), tm("x"))
	t := first
	for range n - 1 {
		t = call("e", tm("'1"), t)
	}
	first.Args[1] = t
	return t
}

// branching returns a call all of whose n arguments are the call itself.
func branching(n int) api.Term {
	t := call("e", make([]api.Term, n)...)
	for i := range t.Args {
		t.Args[i] = t
	}
	return t
}

// chain returns a list of n times 1; it has 2n + 1 nodes.
func chain(n int) api.Object {
	o := object.Nil()
	for range n {
		o = object.Cons(object.Int(1), o)
	}
	return o
}

// circle returns a list without an end.
func circle() api.Object {
	o := object.Cons(object.Int(1), object.Nil())
	o.Pair[1] = o
	return o
}

// pick returns one of these.
func pick[T any](r *rand.Rand, l []T) T {
	return l[r.Intn(len(l))]
}

// maker makes random valid terms of few names, so that the same parts occur often.
type maker struct {
	*rand.Rand
	variables, functions []api.Symbol
	constants            []api.Object
	most                 int // arguments
}

func newMaker(seed int64) *maker {
	m := &maker{Rand: rand.New(rand.NewSource(seed)), variables: syms("x y z a::x"), functions: syms("f g a::f x"), most: 3}
	for _, s := range []string{"nil", "x", "1", "-1/2", "\"x\"", "(x . y)", "(f x)", "(1 2)"} {
		m.constants = append(m.constants, obj(s))
	}
	return m
}

func (m *maker) term(depth int) api.Term {
	if depth == 1 || m.Intn(4) == 0 {
		if m.Intn(4) > 0 {
			return api.Term{Kind: api.Variable, Name: pick(m.Rand, m.variables)}
		}
		return api.Term{Kind: api.Constant, Value: pick(m.Rand, m.constants)}
	}
	t := api.Term{Kind: api.Call, Name: pick(m.Rand, m.functions)}
	for range m.Intn(m.most + 1) {
		t.Args = append(t.Args, m.term(depth-1))
	}
	return t
}

// substitution returns assignments of some variables, each assigned once.
func (m *maker) substitution(depth int) []api.Assign {
	var s []api.Assign
	for _, i := range m.Perm(len(m.variables)) {
		if m.Intn(2) == 0 {
			s = append(s, api.Assign{Var: m.variables[i], Term: m.term(1 + m.Intn(depth))})
		}
	}
	return s
}

// subterms returns the subterms of t, in order.
func subterms(t api.Term) []api.Term {
	l := []api.Term{t}
	for _, a := range t.Args {
		l = append(l, subterms(a)...)
	}
	return l
}

// occurrences returns how often variables occur in t.
func occurrences(t api.Term) int {
	n := 0
	for _, s := range subterms(t) {
		if s.Kind == api.Variable {
			n++
		}
	}
	return n
}

func expectValidTerms(t *testing.T, l ...api.Term) {
	t.Helper()
	for _, x := range l {
		if !term.Valid(x) {
			t.Fatalf("the test needs valid terms, not %s", short(x))
		}
	}
}
