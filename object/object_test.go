package object

import (
	"math"
	"math/big"
	"slices"
	"strconv"
	"strings"
	"testing"

	"lispprover/api"
)

// isSame compares two finite objects by another way than Equal.
func isSame(a, b api.Object) bool {
	return a.Kind == b.Kind && a.Num == b.Num && a.Den == b.Den && a.Sym == b.Sym && a.Text == b.Text && slices.EqualFunc(a.Pair, b.Pair, isSame)
}

// show returns a text for messages.
func show(o api.Object) string {
	s := "{" + strconv.Itoa(o.Kind) + " " + o.Num + "/" + o.Den + " " + o.Sym.Package + "::" + o.Sym.Name + " " + strconv.Quote(o.Text)
	if len(o.Pair) > 0 && Nodes(o) > 50 {
		return s + " ..}"
	}
	for _, p := range o.Pair {
		s += " " + show(p)
	}
	return s + "}"
}

func expect(t *testing.T, what string, got, want api.Object) {
	t.Helper()
	if !isSame(got, want) {
		t.Errorf("%s: got %s, want %s", what, show(got), show(want))
	}
}

// The following functions write objects down without the functions under test.

func num(n, d string) api.Object {
	return api.Object{Kind: api.KindNumber, Num: n, Den: d}
}

func sym(pack, name string) api.Object {
	return api.Object{Kind: api.KindSymbol, Sym: api.Symbol{Package: pack, Name: name}}
}

func str(s string) api.Object {
	return api.Object{Kind: api.KindString, Text: s}
}

func pair(l ...api.Object) api.Object {
	return api.Object{Kind: api.KindCons, Pair: l}
}

// chain returns a proper list of n ones.
func chain(n int) api.Object {
	o := sym("lisp", "nil")
	for range n {
		o = pair(num("1", "1"), o)
	}
	return o
}

// carChain nests n conses in their cars.
func carChain(n int) api.Object {
	o := num("1", "1")
	for range n {
		o = pair(o, str("x"))
	}
	return o
}

// bush returns a balanced tree with 2^(n+1) - 1 nodes, in which no memory is shared.
func bush(n int, leaf api.Object) api.Object {
	if n == 0 {
		return leaf
	}
	return pair(bush(n-1, leaf), bush(n-1, leaf))
}

// double returns a tree with 2^(n+1) - 1 nodes, whose equal parts share their memory.
func double(n int, leaf api.Object) api.Object {
	o := leaf
	for range n {
		o = pair(o, o)
	}
	return o
}

// endless returns a list of n ones that goes on with itself.
func endless(n int) api.Object {
	cells := make([][]api.Object, n)
	for i := range n {
		cells[i] = make([]api.Object, 2)
	}
	for i := range n {
		cells[i][0] = num("1", "1")
		cells[i][1] = pair(cells[(i+1)%n]...)
	}
	return pair(cells[0]...)
}

// endlessAfter returns an endless list with n other elements before it.
func endlessAfter(n int, o api.Object) api.Object {
	for range n {
		o = pair(num("2", "1"), o)
	}
	return o
}

// bottomless returns a cons that is its own car.
func bottomless() api.Object {
	cell := make([]api.Object, 2)
	cell[0] = pair(cell...)
	cell[1] = sym("lisp", "nil")
	return pair(cell...)
}

// generator yields the same objects in every run.
type generator uint64

func (g *generator) below(n int) int {
	*g = *g*6364136223846793005 + 1442695040888963407
	return int(uint64(*g)>>33) % n
}

// number returns a valid number with small parts.
func (g *generator) number() api.Object {
	x := big.NewRat(int64(g.below(13)-6), int64(1+g.below(4)))
	return num(x.Num().String(), x.Denom().String())
}

// object returns a valid object of at most this depth; it is likely to be equal to another one.
func (g *generator) object(depth int) api.Object {
	kinds := 4
	if depth == 0 {
		kinds = 3
	}
	switch g.below(kinds) {
	case 0:
		return g.number()
	case 1:
		return sym([]string{"lisp", "a", "b"}[g.below(3)], []string{"nil", "t", "x", "xy"}[g.below(4)])
	case 2:
		return str([]string{"", "a", "ab", "b", "\x00", "\xff"}[g.below(6)])
	}
	return pair(g.object(depth-1), g.object(depth-1))
}

// P2.1

func TestNilAndT(t *testing.T) {
	expect(t, "Nil", Nil(), sym("lisp", "nil"))
	expect(t, "T", T(), sym("lisp", "t"))
	if !Valid(Nil()) || !Valid(T()) {
		t.Error("nil and t are valid")
	}
}

func TestInt(t *testing.T) {
	for _, n := range []int{0, 1, -1, 9, 10, -120, 999999999, 1000000000, math.MaxInt, math.MinInt} {
		expect(t, "Int", Int(n), num(strconv.Itoa(n), "1"))
		if !Valid(Int(n)) {
			t.Errorf("Int(%d) is not valid", n)
		}
	}
}

func TestRational(t *testing.T) {
	for _, c := range [][4]string{
		{"6", "-4", "-3", "2"}, {"-6", "-4", "3", "2"}, {"1", "2", "1", "2"}, {"4", "2", "2", "1"}, {"-4", "4", "-1", "1"},
		{"0", "5", "0", "1"}, {"0", "-5", "0", "1"}, {"5", "0", "0", "1"}, {"0", "0", "0", "1"}, {"007", "2", "0", "1"}, {"7", "x", "0", "1"},
		{"10000000000000000000000", "-30000000000", "-1000000000000", "3"},
	} {
		expect(t, "Rational("+c[0]+", "+c[1]+")", Rational(c[0], c[1]), num(c[2], c[3]))
	}
	for n := -30; n <= 30; n++ {
		for d := -30; d <= 30; d++ {
			want := num("0", "1")
			if d != 0 {
				x := big.NewRat(int64(n), int64(d))
				want = num(x.Num().String(), x.Denom().String())
			}
			expect(t, "Rational", Rational(strconv.Itoa(n), strconv.Itoa(d)), want)
		}
	}
}

func TestSymbolAndTextAndCons(t *testing.T) {
	expect(t, "Symbol", Symbol(api.Symbol{Package: "a-1", Name: "B c"}), sym("a-1", "B c"))
	expect(t, "Symbol", Symbol(api.Symbol{Package: "lisp", Name: "nil"}), sym("lisp", "nil"))
	expect(t, "Text", Text("a\x00\xff"), str("a\x00\xff"))
	expect(t, "Text", Text(""), str(""))
	expect(t, "Cons", Cons(num("1", "1"), str("x")), pair(num("1", "1"), str("x")))
	expect(t, "Cons", Cons(Cons(T(), Nil()), Nil()), pair(pair(sym("lisp", "t"), sym("lisp", "nil")), sym("lisp", "nil")))
}

func TestConstructorsDoNotCheckLimits(t *testing.T) {
	digits := "1" + strings.Repeat("0", api.MaxDigits)
	expect(t, "Rational", Rational(digits, "3"), num(digits, "3"))
	expect(t, "Rational", Rational("3", digits), num("3", digits))
	long := strings.Repeat("a", api.MaxText+1)
	expect(t, "Text", Text(long), str(long))
	expect(t, "Symbol", Symbol(api.Symbol{Package: long, Name: long}), sym(long, long))
	expect(t, "Symbol", Symbol(api.Symbol{}), sym("", ""))
	expect(t, "Cons", Cons(chain(api.MaxNodes), api.Object{}), pair(chain(api.MaxNodes), api.Object{}))
}

// P2.2

func TestList(t *testing.T) {
	one, two, end := num("1", "1"), num("2", "1"), sym("lisp", "nil")
	expect(t, "List()", List(), end)
	expect(t, "List(1)", List(one), pair(one, end))
	expect(t, "List(1, 2)", List(one, two), pair(one, pair(two, end)))
	expect(t, "List(2, 1, 2)", List(two, one, two), pair(two, pair(one, pair(two, end))))
	expect(t, "List(nil)", List(end), pair(end, end))
	expect(t, "List((1), (1 . 2))", List(pair(one, end), pair(one, two)), pair(pair(one, end), pair(pair(one, two), end)))
	expect(t, "List of many", List(slices.Repeat([]api.Object{one}, 5000)...), chain(5000))
	expect(t, "List of an invalid object", List(api.Object{}), pair(api.Object{}, end))
}

func TestItems(t *testing.T) {
	one, two, end := num("1", "1"), num("2", "1"), sym("lisp", "nil")
	for _, want := range [][]api.Object{
		{}, {one}, {one, two}, {two, one, two}, {end}, {end, end}, {pair(one, end), end, pair(one, two)}, {str("a"), pair(one, pair(two, end))},
		slices.Repeat([]api.Object{two}, (api.MaxNodes-1)/2),
	} {
		o := end
		for _, x := range slices.Backward(want) {
			o = pair(x, o)
		}
		if got, ok := Items(o); !ok || !slices.EqualFunc(got, want, isSame) {
			t.Errorf("Items(%s): %v, %v", show(o), got, ok)
		}
		expect(t, "List of Items", List(want...), o)
	}
}

func TestItemsOfOthers(t *testing.T) {
	one, end := num("1", "1"), sym("lisp", "nil")
	for _, o := range []api.Object{
		pair(one, one), pair(one, pair(one, one)), pair(end, sym("lisp", "t")), pair(one, str("nil")), pair(end, sym("a", "nil")),
		one, num("0", "1"), str(""), str("nil"), sym("lisp", "t"), sym("a", "nil"), sym("lisp", "NIL"), sym("nil", "lisp"),
	} {
		if got, ok := Items(o); ok || len(got) != 0 {
			t.Errorf("Items(%s): %v, %v", show(o), got, ok)
		}
	}
}

func TestItemsIsNewMemory(t *testing.T) {
	o := List(Int(1), Int(2))
	items, _ := Items(o)
	items[0], items[1] = T(), T()
	expect(t, "the list after a change of its items", o, List(Int(1), Int(2)))
	l := []api.Object{Int(1), Int(2)}
	o = List(l...)
	l[0], l[1] = T(), T()
	expect(t, "the list after a change of the arguments", o, List(Int(1), Int(2)))
}

func TestIsNilAndIsInteger(t *testing.T) {
	for _, c := range []struct {
		o                 api.Object
		isNil, isIntegral bool
	}{
		{Nil(), true, false}, {List(), true, false}, {sym("lisp", "nil"), true, false},
		{T(), false, false}, {sym("a", "nil"), false, false}, {sym("lisp", "Nil"), false, false}, {sym("nil", "lisp"), false, false}, {sym("lisp", "1"), false, false},
		{str("nil"), false, false}, {str(""), false, false}, {str("1"), false, false},
		{pair(Nil(), Nil()), false, false}, {pair(num("1", "1"), num("1", "1")), false, false},
		{num("0", "1"), false, true}, {num("1", "1"), false, true}, {num("-12", "1"), false, true}, {num(strings.Repeat("9", 100), "1"), false, true},
		{num("1", "2"), false, false}, {num("-7", "3"), false, false}, {num("1", "10"), false, false}, {num("1", "11"), false, false},
	} {
		if IsNil(c.o) != c.isNil || IsInteger(c.o) != c.isIntegral {
			t.Errorf("%s: IsNil %v, IsInteger %v", show(c.o), IsNil(c.o), IsInteger(c.o))
		}
	}
}
