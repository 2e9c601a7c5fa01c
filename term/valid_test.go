package term

import (
	"slices"
	"strings"
	"testing"

	"lispprover/api"
	"lispprover/object"
)

// P8.1: Valid, Nodes and Depth

func expectValid(t *testing.T, x api.Term, want bool) {
	t.Helper()
	if Valid(x) != want {
		t.Errorf("Valid(%s): %v", short(x), !want)
	}
}

// expectBad expects that a term is not valid, nor any term with it as an argument.
func expectBad(t *testing.T, x api.Term) {
	t.Helper()
	expectValid(t, x, false)
	expectValid(t, call("f", x), false)
	expectValid(t, call("f", tm("x"), x, tm("'1")), false)
	expectValid(t, call("f", tm("x"), tm("(h '1)"), call("g", x)), false)
}

// expectGood expects that a term is valid, and that it may be an argument.
func expectGood(t *testing.T, x api.Term) {
	t.Helper()
	expectValid(t, x, true)
	expectValid(t, call("f", x), true)
	expectValid(t, call("f", tm("x"), tm("(h '1)"), call("g", x)), true)
}

// goodSymbols and badSymbols are symbols that are valid and not valid.
func goodSymbols() []api.Symbol {
	return append(syms("x a::x quote if"), api.Symbol{Package: "a", Name: "nil"}, api.Symbol{Package: "a", Name: "t"}, api.Symbol{Package: "lisp", Name: "NIL"}, api.Symbol{Package: "lisp", Name: "\x00 \xff"},
		api.Symbol{Package: strings.Repeat("p", api.MaxName), Name: strings.Repeat("n", api.MaxName)})
}

func badSymbols() []api.Symbol {
	return []api.Symbol{{}, {Package: "lisp"}, {Name: "x"}, {Package: "A", Name: "x"}, {Package: "9", Name: "x"}, {Package: "a b", Name: "x"},
		{Package: strings.Repeat("p", api.MaxName+1), Name: "x"}, {Package: "a", Name: strings.Repeat("n", api.MaxName+1)}}
}

func TestValidVariables(t *testing.T) {
	for _, s := range goodSymbols() {
		expectGood(t, api.Term{Kind: api.Variable, Name: s})
	}
	for _, s := range append(badSymbols(), sym("nil"), sym("t")) {
		expectBad(t, api.Term{Kind: api.Variable, Name: s})
	}
}

func TestValidConstants(t *testing.T) {
	for _, s := range []string{"nil", "t", "x", "0", "-1/2", "\"\"", "(a . b)", "(quote x)", "(1 2 (3))"} {
		expectGood(t, api.Term{Kind: api.Constant, Value: obj(s)})
	}
	for _, o := range []api.Object{
		{}, {Kind: 5}, {Kind: api.KindNumber}, {Kind: api.KindNumber, Num: "2", Den: "4"}, {Kind: api.KindSymbol}, {Kind: api.KindCons}, object.Text(strings.Repeat("a", api.MaxText+1)),
		object.Cons(object.Nil(), api.Object{}), {Kind: api.KindString, Num: "1"}, circle(), bottomless(), shared(100), object.Symbol(api.Symbol{}),
	} {
		expectBad(t, api.Term{Kind: api.Constant, Value: o})
	}
}

func TestValidCalls(t *testing.T) {
	for _, s := range append(goodSymbols(), sym("nil"), sym("t")) {
		expectGood(t, api.Term{Kind: api.Call, Name: s})
		expectGood(t, api.Term{Kind: api.Call, Name: s, Args: tms("x", "'1", "(f x)")})
	}
	for _, s := range badSymbols() {
		expectBad(t, api.Term{Kind: api.Call, Name: s})
		expectBad(t, api.Term{Kind: api.Call, Name: s, Args: tms("x", "'1", "(f x)")})
	}
}

func TestValidParams(t *testing.T) {
	for n := range 30 {
		x := call("f", slices.Repeat(tms("x"), n)...)
		expectValid(t, x, n <= api.MaxParams)
		expectValid(t, call("g", tm("y"), x), n <= api.MaxParams)
	}
}

// withForeignFields returns x with each field set that it does not have.
func withForeignFields(x api.Term) []api.Term {
	var l []api.Term
	change := func(f func(x *api.Term)) {
		changed := x
		f(&changed)
		l = append(l, changed)
	}
	if x.Kind == api.Constant {
		change(func(x *api.Term) { x.Name = sym("x") })
		change(func(x *api.Term) { x.Name.Package = "lisp" })
		change(func(x *api.Term) { x.Name.Name = "x" })
	} else {
		for _, o := range []api.Object{obj("nil"), obj("1"), {Kind: api.KindNumber}, {Num: "1"}, {Den: "1"}, {Sym: sym("x")}, {Text: "a"}, {Pair: []api.Object{{}}}, circle()} {
			change(func(x *api.Term) { x.Value = o })
		}
	}
	if x.Kind != api.Call {
		change(func(x *api.Term) { x.Args = tms("x") })
		change(func(x *api.Term) { x.Args = []api.Term{{}} })
	}
	return l
}

func TestValidForeignFields(t *testing.T) {
	for _, x := range tms("x", "'1", "'nil", "'(a b)", "(f)", "(f x)") {
		expectGood(t, x)
		for _, bad := range withForeignFields(x) {
			expectBad(t, bad)
		}
	}
}

// TestValidEmptyLists: an empty list is as good as none.
func TestValidEmptyLists(t *testing.T) {
	for _, x := range tms("x", "'1", "(f)") {
		x.Args = []api.Term{}
		expectGood(t, x)
	}
	for _, x := range tms("x", "(f x)") {
		x.Value.Pair = []api.Object{}
		expectGood(t, x)
	}
	expectGood(t, api.Term{Kind: api.Constant, Value: api.Object{Kind: api.KindString, Pair: []api.Object{}}})
}

func TestValidKinds(t *testing.T) {
	for kind := -2; kind <= 6; kind++ {
		expectValid(t, api.Term{Kind: kind}, false)
		expectValid(t, api.Term{Kind: kind, Name: sym("x")}, kind == api.Variable || kind == api.Call)
		expectValid(t, api.Term{Kind: kind, Value: obj("1")}, kind == api.Constant)
		expectValid(t, api.Term{Kind: kind, Name: sym("x"), Args: tms("y")}, kind == api.Call)
		expectValid(t, api.Term{Kind: kind, Name: sym("x"), Value: obj("1"), Args: tms("y")}, false)
	}
}

func expectNodes(t *testing.T, x api.Term, want int) {
	t.Helper()
	if got := Nodes(x); got != want {
		t.Errorf("Nodes(%s): %d, want %d", short(x), got, want)
	}
	if Valid(x) && want > api.MaxNodes {
		t.Errorf("Valid(%s)", short(x))
	}
}

func TestNodes(t *testing.T) {
	for s, n := range map[string]int{
		"x": 1, "'1": 1, "'x": 1, "'nil": 1, "'(1 . 2)": 3, "'(1 2)": 5, "(f)": 1, "(f x)": 2, "(f x x)": 3, "(f (g x) y)": 4, "(f '(1 2) (g '(1 . 2)))": 10, "(f (g (h)))": 3,
	} {
		expectNodes(t, tm(s), n)
		expectNodes(t, call("f", tm(s), tm("x"), tm(s)), 2*n+2)
	}
}

// TestNodesOfConstants has constants at the limit of nodes and one beyond.
func TestNodesOfConstants(t *testing.T) {
	most := api.Term{Kind: api.Constant, Value: chain(1499)} // 2999 nodes
	expectNodes(t, most, 2999)
	expectValid(t, most, true)
	expectNodes(t, call("f", most), 3000)
	expectValid(t, call("f", most), true)
	for _, x := range []api.Term{call("f", most, tm("x")), call("f", tm("x"), most), call("f", most, tm("(g)")), call("f", most, tm("'1")), call("f", call("f", most)), call("f", most, most), call("f", slices.Repeat([]api.Term{most}, 8)...)} {
		expectNodes(t, x, 3001)
		expectValid(t, x, false)
	}
	for _, o := range []api.Object{chain(1500), chain(1501), chain(5000), shared(11), shared(100), circle(), bottomless()} {
		expectNodes(t, api.Term{Kind: api.Constant, Value: o}, 3001)
		expectNodes(t, call("f", api.Term{Kind: api.Constant, Value: o}, tm("x")), 3001)
	}
	half := api.Term{Kind: api.Constant, Value: chain(749)} // 1499 nodes
	expectNodes(t, call("f", half, half), 2999)
	expectNodes(t, call("f", half, half, tm("x")), 3000)
	expectValid(t, call("f", half, half, tm("x")), true)
	expectNodes(t, call("f", half, tm("x"), half, tm("y")), 3001)
	expectValid(t, call("f", half, tm("x"), half, tm("y")), false)
}

func TestNodesOfCalls(t *testing.T) {
	for n := 1; n < 100; n++ {
		expectNodes(t, bushy(n), n)
		expectValid(t, bushy(n), true)
	}
	for n := 2900; n < 3100; n++ {
		x := bushy(n)
		expectNodes(t, x, min(n, api.MaxNodes+1))
		expectValid(t, x, n <= api.MaxNodes)
		expectNodes(t, call("f", x, tm("'(1 . 2)")), min(n+4, api.MaxNodes+1))
		expectValid(t, call("f", x, tm("'(1 . 2)")), n+4 <= api.MaxNodes)
	}
}

func TestNodesBeyondTheLimits(t *testing.T) {
	expectNodes(t, nest(2998, tm("x")), 2999)
	expectNodes(t, nest(2999, tm("x")), 3000)
	expectNodes(t, nest(3000, tm("x")), 3001)
	expectNodes(t, nest(60000, tm("x")), 3001)
	expectNodes(t, double(10, tm("x")), 2047)
	expectNodes(t, double(11, tm("x")), 3001)
	expectNodes(t, double(500, tm("x")), 3001)
	expectNodes(t, endless(1), 3001)
	expectNodes(t, endless(700), 3001)
	expectNodes(t, branching(3), 3001)
	expectNodes(t, call("f", slices.Repeat(tms("x"), 2999)...), 3000)
	expectNodes(t, call("f", slices.Repeat(tms("x"), 3000)...), 3001)
	expectNodes(t, call("f", slices.Repeat(tms("x"), 100000)...), 3001)
}

// strangers are terms that have arguments, but are no calls, or an object, but are no constants.
func strangers() []api.Term {
	args, o := tms("x", "(f (g y))"), obj("(1 2)")
	var l []api.Term
	for _, kind := range []int{-1, 0, 4, 1 << 40, api.Variable} {
		l = append(l, api.Term{Kind: kind}, api.Term{Kind: kind, Args: args}, api.Term{Kind: kind, Value: o}, api.Term{Kind: kind, Name: sym("x"), Args: args, Value: o})
	}
	return l
}

// TestStrangeNodes: only calls have arguments, and only constants have an object.
func TestStrangeNodes(t *testing.T) {
	for _, x := range strangers() {
		expectNodes(t, x, 1)
		expectDepth(t, x, 1)
		expectNodes(t, call("f", x, tm("y"), x), 4)
		expectDepth(t, call("f", x, tm("y"), x), 2)
		expectBad(t, call("f", x))
	}
	constant := api.Term{Kind: api.Constant, Name: sym("x"), Value: obj("(1 2)"), Args: tms("(f (g y))", "x")}
	expectNodes(t, constant, 5)
	expectDepth(t, constant, 1)
	expectNodes(t, api.Term{Kind: api.Constant}, 1)
	f := tm("(f x)")
	f.Value = obj("(1 2)")
	expectNodes(t, f, 2)
	expectDepth(t, f, 2)
	expectNodes(t, call("f", f, constant), 8)
	expectDepth(t, call("f", f, constant), 3)
}

func expectDepth(t *testing.T, x api.Term, want int) {
	t.Helper()
	if got := Depth(x); got != want {
		t.Errorf("Depth(%s): %d, want %d", short(x), got, want)
	}
	if Valid(x) && want > api.MaxDepth {
		t.Errorf("Valid(%s)", short(x))
	}
}

func TestDepth(t *testing.T) {
	for s, n := range map[string]int{
		"x": 1, "'1": 1, "'(1 (2 (3)))": 1, "(f)": 1, "(f x)": 2, "(f 'x)": 2, "(f (g))": 2, "(f (g x))": 3, "(f x (g y) z)": 3, "(f (g (h x)) y (g y))": 4, "(f x (g (h)))": 3, "(f (g (h '(1))) (g (g (g x))))": 5,
	} {
		expectDepth(t, tm(s), n)
		expectDepth(t, call("f", tm("x"), tm(s)), n+1)
		expectDepth(t, call("f", tm(s), tm("x")), n+1)
	}
}

// TestDepthLimit has terms at the limit of depth and one beyond.
func TestDepthLimit(t *testing.T) {
	for _, inner := range tms("x", "'(1 2)", "(g)") {
		expectDepth(t, nest(api.MaxDepth-2, inner), api.MaxDepth-1)
		expectDepth(t, nest(api.MaxDepth-1, inner), api.MaxDepth)
		expectValid(t, nest(api.MaxDepth-1, inner), true)
		expectDepth(t, nest(api.MaxDepth, inner), api.MaxDepth+1)
		expectValid(t, nest(api.MaxDepth, inner), false)
		for _, n := range []int{api.MaxDepth + 1, 2 * api.MaxDepth, 2900, 3500, 60000} {
			expectDepth(t, nest(n, inner), api.MaxDepth+1)
			expectValid(t, nest(n, inner), false)
		}
	}
	deepest := nest(api.MaxDepth-2, tm("x"))
	expectValid(t, call("f", tm("x"), deepest, tm("(f x)")), true)
	expectValid(t, call("f", tm("x"), tm("(f x)"), call("f", deepest)), false)
}

// TestDepthOfLargeTerms has terms that are not valid, some of them with far more nodes than memory.
func TestDepthOfLargeTerms(t *testing.T) {
	for _, n := range []int{12, 50, 198, 199} {
		expectDepth(t, double(n, tm("x")), n+1)
		expectDepth(t, double(n, tm("(g)")), n+1)
	}
	for _, n := range []int{200, 201, 1000, 5000} {
		expectDepth(t, double(n, tm("x")), api.MaxDepth+1)
	}
	expectDepth(t, call("f", slices.Repeat(tms("(g x)"), 100000)...), 3)
	large := double(12, tm("x"))
	expectDepth(t, call("f", large, nest(100, tm("x"))), 102)
	expectDepth(t, call("f", large, nest(198, tm("x"))), 200)
	expectDepth(t, call("f", large, nest(199, tm("x"))), 201)
	// a part that lies at a low and at a deep level
	part := nest(60, tm("x"))
	expectDepth(t, call("f", large, part, nest(80, part)), 142)
	expectDepth(t, call("f", large, nest(80, part), part), 142)
	expectDepth(t, call("f", large, part, nest(138, part)), 200)
	expectDepth(t, call("f", large, part, nest(139, part)), 201)
	expectDepth(t, call("f", large, part, nest(190, part)), 201)
	expectDepth(t, call("f", large, nest(190, part), part), 201)
}

func TestDepthOfEndlessTerms(t *testing.T) {
	large := double(12, tm("x"))
	for _, x := range []api.Term{endless(1), endless(2), endless(300), branching(1), branching(2), branching(8), branching(4000)} {
		for _, y := range []api.Term{x, call("f", x), call("f", large, x), call("f", x, large), call("f", large, nest(150, x)), call("f", large, x, nest(250, x))} {
			expectDepth(t, y, api.MaxDepth+1)
			expectNodes(t, y, api.MaxNodes+1)
			expectValid(t, y, false)
		}
	}
}
