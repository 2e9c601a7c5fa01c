package term

import (
	"reflect"
	"strings"
	"testing"

	"lispprover/api"
	"lispprover/object"
	"lispprover/reader"
)

func packages() []api.Package {
	return []api.Package{{Name: "lisp"}, {Name: "a"}, {Name: "b"}}
}

// obj reads an object; symbols without a package are in lisp.
func obj(s string) api.Object {
	o, err := reader.One(packages(), "lisp", s)
	if err.Err != api.OK {
		panic("no object: " + s)
	}
	return o
}

func sym(s string) api.Symbol {
	return obj(s).Sym
}

func syms(s string) []api.Symbol {
	var l []api.Symbol
	for _, word := range strings.Fields(s) {
		l = append(l, sym(word))
	}
	return l
}

// tm reads a term: symbols are variables, lists are calls, everything else is a constant, what is quoted, too.
func tm(s string) api.Term {
	return fromObject(obj(s))
}

func tms(l ...string) []api.Term {
	var r []api.Term
	for _, s := range l {
		r = append(r, tm(s))
	}
	return r
}

func fromObject(o api.Object) api.Term {
	lisp := func(name string) api.Symbol { return api.Symbol{Package: "lisp", Name: name} }
	if o.Kind == api.KindSymbol && o.Sym != lisp("nil") && o.Sym != lisp("t") {
		return api.Term{Kind: api.Variable, Name: o.Sym}
	}
	if o.Kind != api.KindCons {
		return api.Term{Kind: api.Constant, Value: o}
	}
	if o.Pair[0].Sym == lisp("quote") {
		return api.Term{Kind: api.Constant, Value: o.Pair[1].Pair[0]}
	}
	t := api.Term{Kind: api.Call, Name: o.Pair[0].Sym}
	for o = o.Pair[1]; o.Kind == api.KindCons; o = o.Pair[1] {
		t.Args = append(t.Args, fromObject(o.Pair[0]))
	}
	return t
}

// subst reads a substitution: a variable, its term, a variable, its term, and so on.
func subst(l ...string) []api.Assign {
	var s []api.Assign
	for i := 0; i < len(l); i += 2 {
		s = append(s, api.Assign{Var: sym(l[i]), Term: tm(l[i+1])})
	}
	return s
}

// lambda reads a replacement of a function: its name, the parameters, the body.
func lambda(name, params, body string) api.Lambda {
	return api.Lambda{Name: sym(name), Params: syms(params), Body: tm(body)}
}

// text returns a text for a term; different terms have different texts, and the text of a subterm stands in it just where the subterm is.
func text(t api.Term) string {
	return textUpTo(t, 500)
}

// textUpTo returns the text of a term; depth keeps it from going through one without an end.
func textUpTo(t api.Term, depth int) string {
	if depth == 0 {
		return "[..]"
	}
	name := t.Name.Package + " " + t.Name.Name
	switch t.Kind {
	case api.Variable:
		return "[v " + name + "]"
	case api.Constant:
		return "[c " + objectText(t.Value, 20) + "]"
	case api.Call:
		s := "[f " + name
		for _, a := range t.Args {
			s += " " + textUpTo(a, depth-1)
		}
		return s + "]"
	}
	return "[?]"
}

func objectText(o api.Object, depth int) string {
	switch {
	case depth == 0:
		return ".."
	case o.Kind == api.KindNumber:
		return o.Num + "/" + o.Den
	case o.Kind == api.KindString:
		return "\"" + o.Text + "\""
	case o.Kind == api.KindSymbol:
		return o.Sym.Package + "::" + o.Sym.Name
	case len(o.Pair) == 2:
		return "(" + objectText(o.Pair[0], depth-1) + " . " + objectText(o.Pair[1], depth-1) + ")"
	}
	return "?"
}

// short returns a text for a term that is good enough for a message.
func short(t api.Term) string {
	s := textUpTo(t, 6)
	return s[:min(len(s), 300)]
}

// same reports whether two terms are equal, field by field; an empty list is as good as none.
func same(a, b api.Term) bool {
	if a.Kind != b.Kind || a.Name != b.Name || !reflect.DeepEqual(a.Value, b.Value) || len(a.Args) != len(b.Args) {
		return false
	}
	for i := range a.Args {
		if !same(a.Args[i], b.Args[i]) {
			return false
		}
	}
	return true
}

func expectTerm(t *testing.T, what string, got, want api.Term) {
	t.Helper()
	if !same(got, want) {
		t.Errorf("%s: %s, want %s", what, short(got), short(want))
	}
}

// expectFound expects a term and true.
func expectFound(t *testing.T, what string, got api.Term, is bool, want api.Term) {
	t.Helper()
	if !is {
		t.Errorf("%s: false, want %s", what, short(want))
	}
	expectTerm(t, what, got, want)
}

// expectNone expects false, and the zero term beside it.
func expectNone(t *testing.T, what string, got api.Term, is bool) {
	t.Helper()
	if is || !reflect.DeepEqual(got, api.Term{}) {
		t.Errorf("%s: %s, %v, want none", what, short(got), is)
	}
}

func expectSymbols(t *testing.T, what string, got []api.Symbol, want string) {
	t.Helper()
	var names []string
	for _, s := range got {
		names = append(names, s.Package+"::"+s.Name)
	}
	var wanted []string
	for _, s := range syms(want) {
		wanted = append(wanted, s.Package+"::"+s.Name)
	}
	if strings.Join(names, " ") != strings.Join(wanted, " ") {
		t.Errorf("%s: %v, want %v", what, names, wanted)
	}
}

func call(name string, args ...api.Term) api.Term {
	return api.Term{Kind: api.Call, Name: sym(name), Args: args}
}

// bushy returns a term without constants that has n nodes and is no deeper than these require.
func bushy(n int) api.Term {
	if n == 1 {
		return api.Term{Kind: api.Variable, Name: api.Symbol{Package: "lisp", Name: "x"}}
	}
	t := api.Term{Kind: api.Call, Name: api.Symbol{Package: "lisp", Name: "f"}}
	left, args := n-1, min(n-1, api.MaxParams)
	for i := range args {
		share := left / (args - i)
		t.Args = append(t.Args, bushy(share))
		left -= share
	}
	return t
}

// nest returns the term (f (f .. x)) with n calls; its depth is n + 1.
func nest(n int, x api.Term) api.Term {
	for range n {
		x = call("f", x)
	}
	return x
}

// double returns a term of n levels of calls whose two arguments are equal to each other; it has far more nodes than memory.
func double(n int, x api.Term) api.Term {
	for range n {
		x = call("d", x, x)
	}
	return x
}

// endless returns a term that contains itself after n levels.
func endless(n int) api.Term {
	first := call("e", tm("'1"), tm("x"))
	t := first
	for range n - 1 {
		t = call("e", tm("'1"), t)
	}
	first.Args[1] = t
	return t
}

// branching returns a call all of whose n arguments are the call itself.
func branching(n int) api.Term {
	t := call("e", make([]api.Term, n)...)
	for i := range t.Args {
		t.Args[i] = t
	}
	return t
}

// chain returns a list of n times 1; it has 2n + 1 nodes.
func chain(n int) api.Object {
	o := object.Nil()
	for range n {
		o = object.Cons(object.Int(1), o)
	}
	return o
}

// circle returns a list without an end.
func circle() api.Object {
	o := object.Cons(object.Int(1), object.Nil())
	o.Pair[1] = o
	return o
}

// bottomless returns an object that is its own car.
func bottomless() api.Object {
	o := object.Cons(object.Int(1), object.Nil())
	o.Pair[0] = o
	return o
}

// shared returns an object with far more nodes than memory.
func shared(n int) api.Object {
	o := object.Int(1)
	for range n {
		o = object.Cons(o, o)
	}
	return o
}
