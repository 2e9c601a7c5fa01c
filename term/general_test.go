package term

import (
	"reflect"
	"slices"
	"strings"
	"testing"

	"lispprover/api"
	"lispprover/object"
)

// Arguments that are not valid, and the general rules P0.1 and P0.4

// strange are terms that are malformed, endless, or far larger than their memory.
func strange() []api.Term {
	constant := func(o api.Object) api.Term { return api.Term{Kind: api.Constant, Value: o} }
	l := slices.Concat(strangers(), withForeignFields(tm("x")), withForeignFields(tm("'1")), withForeignFields(tm("(f)")))
	l = append(l, endless(1), endless(2), endless(300), branching(1), branching(2), branching(9), branching(1000), nest(300, tm("x")), nest(3001, tm("x")), nest(400, endless(3)), double(12, tm("x")), double(100, tm("x")), double(150, endless(2)),
		double(64, constant(shared(64))), call("f", slices.Repeat(tms("x"), 9)...), call("f", slices.Repeat(tms("(g x)"), 3000)...), call("f", endless(1), endless(2), tm("x")), call("d", double(30, tm("x")), branching(3)),
		constant(circle()), constant(bottomless()), constant(shared(100)), constant(chain(5000)), constant(api.Object{}), constant(api.Object{Kind: 7}), constant(object.Text(strings.Repeat("x", 1000))),
		Var(sym("nil")), Var(sym("t")), Var(api.Symbol{}), App(api.Symbol{}), App(api.Symbol{Package: "A"}, api.Term{}), call("quote", tm("x")), api.Term{}, tm("x"), tm("'1"), tm("(f x)"), tm("(e '1 x)"), tm("(d x x)"))
	return l
}

func lambdas(bodies ...api.Term) []api.Lambda {
	var l []api.Lambda
	for i, b := range bodies {
		l = append(l, api.Lambda{Name: sym([]string{"e", "d", "f"}[i%3]), Params: syms("x y")[:2-i/3%3], Body: b})
	}
	return append(l, api.Lambda{}, api.Lambda{Name: sym("g"), Params: slices.Repeat(syms("x"), 1000)})
}

func useOne(x api.Term) {
	Var(x.Name)
	Const(x.Value)
	App(x.Name, x.Args...)
	Lisp(x.Name.Name, x.Args...)
	Valid(x)
	Nodes(x)
	Depth(x)
	Ground(x)
	Variables(x, x)
	Variables(x.Args...)
	Functions(x, x)
	Functions(x.Args...)
	Quote(x)
	Unquote(x.Value)
	Unquote(Quote(x))
	for _, path := range [][]int{nil, {0}, {0, 0}, {1, 0}, {-1}, {1, 1, 1}, {2}} {
		At(x, path)
		Put(x, path, x)
	}
}

func useSeveral(x, y, z api.Term) {
	Equal(x, y)
	Occurs(x, y)
	Replace(x, y, z)
	Substitute(x, []api.Assign{{Var: sym("y"), Term: y}, {Var: y.Name, Term: z}, {Var: sym("x"), Term: y}})
	Instance(x, lambdas(y, z, x, y, z, x))
	Instance(x, lambdas(tm("(d x x)"), y, z, tm("'1"), y))
	Put(x, []int{1, 0}, y)
}

func TestStrangeArguments(t *testing.T) {
	l, again := strange(), strange()
	for i := range l {
		useOne(l[i])
		for j := range l {
			useSeveral(l[i], l[j], l[(i+j)%len(l)])
		}
	}
	for i := range l {
		if !reflect.DeepEqual(l[i], again[i]) {
			t.Errorf("an argument was changed: %d", i)
		}
	}
}

// TestCapacityIsKept: not even the unused capacity of a slice may be changed.
func TestCapacityIsKept(t *testing.T) {
	all := func() ([]api.Term, []api.Assign, []api.Lambda, []int) {
		args := tms("x", "(g y)", "(spare)", "(more)")
		s := subst("x", "y", "y", "x", "g", "'1")
		l := []api.Lambda{lambda("f", "x y z", "(h x y)"), lambda("g", "x", "(f x x)"), lambda("spare", "", "x")}
		return args, s, l, []int{0, 1, 2}
	}
	args, s, l, path := all()
	x, y := call("f", args[:2]...), call("f", args[1:3]...)
	for _, f := range []api.Term{x, y, call("g", x, y)} {
		useOne(f)
		Substitute(f, s[:2])
		Instance(f, l[:2])
		Replace(f, tm("(g y)"), y)
		Put(f, path[:1], y)
		Put(f, path[:2], x)
		At(f, path[:2])
		Variables(args[:2]...)
		Functions(args[1:3]...)
		App(sym("f"), args[:2]...)
	}
	l[0].Params = l[0].Params[:2]
	Instance(x, l[:1])
	l[0].Params = l[0].Params[:3]
	wantArgs, wantS, wantL, wantPath := all()
	if !reflect.DeepEqual(args, wantArgs) || !reflect.DeepEqual(s, wantS) || !reflect.DeepEqual(l, wantL) || !reflect.DeepEqual(path, wantPath) {
		t.Error("an argument was changed")
	}
}

// TestResultsAreNew: changing the list at the root of a result of Substitute, Replace, Put or Instance does not change the argument.
func TestResultsAreNew(t *testing.T) {
	x := tm("(f x (g y) z)")
	put, _ := Put(x, []int{0}, tm("'1"))
	for _, got := range []api.Term{Substitute(x, subst("x", "'1")), Replace(x, tm("x"), tm("'1")), Instance(x, []api.Lambda{lambda("g", "x", "'1")}), put} {
		got.Args[2] = tm("'2")
		expectTerm(t, "the argument", x, tm("(f x (g y) z)"))
	}
}

// TestStrangersStay: a term that is no call has no arguments that could be changed.
func TestStrangersStay(t *testing.T) {
	for _, x := range append(strangers(), api.Term{Kind: api.Constant, Value: obj("1"), Args: tms("z", "(f z)")}) {
		if x.Kind == api.Variable {
			x.Name = sym("y")
		}
		whole := call("g", x, tm("z"))
		for what, got := range map[string]api.Term{
			"Substitute": Substitute(whole, subst("x", "'1", "z", "'2")), "Replace": Replace(whole, tm("z"), tm("'2")),
		} {
			expectTerm(t, what, got, call("g", x, tm("'2")))
		}
		expectTerm(t, "Instance", Instance(whole, []api.Lambda{lambda("f", "x", "'1")}), whole)
		got, is := At(whole, []int{0, 0})
		expectNone(t, "At", got, is)
	}
}

// TestDeepTerms: as many levels of nesting as the document allows.
func TestDeepTerms(t *testing.T) {
	n := 1<<16 - 1
	x, y := nest(n, tm("x")), nest(n, tm("y"))
	useOne(x)
	expectEqual(t, x, y, false)
	expectEqual(t, Substitute(x, subst("x", "y")), y, true)
	expectEqual(t, Replace(x, tm("x"), tm("y")), y, true)
	expectEqual(t, Instance(x, []api.Lambda{lambda("f", "x", "x")}), tm("x"), true)
	expectOccurs(t, tm("x"), x, true)
	expectOccurs(t, tm("y"), x, false)
	if o := Quote(x); !object.Equal(o, Quote(nest(n, tm("x")))) || object.Equal(o, Quote(y)) {
		t.Error("Quote of deep terms")
	}
	path := slices.Repeat([]int{0}, n)
	got, is := At(x, path)
	expectFound(t, "At of a deep term", got, is, tm("x"))
	got, is = Put(x, path, tm("y"))
	if !is || !Equal(got, y) {
		t.Error("Put of a deep term")
	}
}

// TestLongPaths: a path may be longer than any term is deep if the term contains itself.
func TestLongPaths(t *testing.T) {
	path := slices.Repeat([]int{1}, 200000)
	got, is := At(endless(3), path)
	if !is || !Equal(got, endless(1)) {
		t.Error("At of an endless term")
	}
	got, is = Put(endless(3), path, tm("x"))
	if !is {
		t.Fatal("Put of an endless term")
	}
	for range path {
		got = got.Args[1]
	}
	expectTerm(t, "the end of the path", got, tm("x"))
}
