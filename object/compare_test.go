package object

import (
	"cmp"
	"math/big"
	"strings"
	"testing"

	"lispprover/api"
)

// copied returns an equal object with memory of its own.
func copied(o api.Object) api.Object {
	var l []api.Object
	for _, p := range o.Pair {
		l = append(l, copied(p))
	}
	o.Pair = l
	return o
}

// distinct are objects of which no two are equal; not all of them are valid.
func distinct() []api.Object {
	one, two := num("1", "1"), num("2", "1")
	l := ascending()
	for _, o := range []api.Object{one, sym("lisp", "nil"), str(""), str("a"), pair(one, two)} {
		l = append(l, withForeignFields(o)...)
	}
	return append(l,
		api.Object{}, api.Object{Kind: 5}, api.Object{Kind: -1}, api.Object{Num: "1"}, api.Object{Num: "1", Den: "1"}, api.Object{Den: "1"}, api.Object{Text: "1"}, api.Object{Pair: []api.Object{{}}},
		num("2", "2"), num("-1", "-2"), num("0", "2"), num("01", "1"), num("", ""), num("x", ""), num("", "x"),
		sym("", ""), sym("", "x"), sym("x", ""),
		pair(), pair(one), pair(two), pair(one, one, one), pair(one, one, two), pair(one, two, one), pair(two, one, one), pair(one, pair(one)), pair(pair(one), one), pair(pair(), one),
	)
}

// P2.3

func TestEqual(t *testing.T) {
	l := distinct()
	for i := range l {
		for j := range l {
			if got := Equal(l[i], copied(l[j])); got != (i == j) {
				t.Errorf("Equal(%s, %s): %v", show(l[i]), show(l[j]), got)
			}
			if got := Equal(pair(T(), l[i]), pair(T(), copied(l[j]))); got != (i == j) {
				t.Errorf("Equal of conses with the cdrs %s, %s: %v", show(l[i]), show(l[j]), got)
			}
			if got := Equal(pair(l[i], T()), pair(copied(l[j]), T())); got != (i == j) {
				t.Errorf("Equal of conses with the cars %s, %s: %v", show(l[i]), show(l[j]), got)
			}
		}
	}
}

func TestEqualWithEmptyPairs(t *testing.T) {
	for _, o := range []api.Object{Int(1), T(), Text("x"), pair(), {}} {
		empty := o
		o.Pair, empty.Pair = nil, []api.Object{}
		if !Equal(o, empty) || !Equal(empty, o) || !Equal(pair(o, T()), pair(empty, T())) {
			t.Errorf("%s with an empty Pair is not equal to itself with none", show(o))
		}
	}
}

// TestEqualOfParts compares slices that begin at the same memory but have different lengths.
func TestEqualOfParts(t *testing.T) {
	l := []api.Object{T(), Nil(), T()}
	for i := range 4 {
		for j := range 4 {
			if got := Equal(pair(l[:i]...), pair(l[:j]...)); got != (i == j) {
				t.Errorf("Equal of %d and %d elements: %v", i, j, got)
			}
		}
	}
}

// ascending are valid objects, each one before the next one in the order.
func ascending() []api.Object {
	nines, power := strings.Repeat("9", api.MaxDigits), "1"+strings.Repeat("0", api.MaxDigits-1)
	zero, one, end := num("0", "1"), num("1", "1"), sym("lisp", "nil")
	return []api.Object{
		num("-"+nines, "1"), num("-10", "1"), num("-9", "1"), num("-3", "2"), num("-1", "1"), num("-1", "2"), num("-1", "3"), num("-1", nines),
		zero, num("1", nines), num("1", power), num("1", "10"), num("1", "3"), num("2", "5"), num("1", "2"), num("3", "5"), num("2", "3"), one, num("3", "2"), num("2", "1"), num("9", "1"), num("19", "2"), num("10", "1"), num(power, "1"), num(nines, "1"),
		str(""), str("\x00"), str("\x00\x00"), str("0"), str("B"), str("a"), str("a\x00"), str("aa"), str("ab"), str("b"), str("\xc3\xa4"), str("\xff"),
		sym("z", "\x00"), sym("a", "A"), sym("z", "A"), sym("a", "a"), sym("a-", "a"), sym("a0", "a"), sym("aa", "a"), sym("lisp", "a"), sym("z", "a"), sym("a", "a\x00"), sym("a", "aa"), sym("a", "b"), sym("a", "nil"), end, sym("m", "nil"), sym("lisp", "t"), sym("a", "\xff"),
		pair(num("-1", "1"), end), pair(zero, zero), pair(zero, num("1", "2")), pair(zero, str("")), pair(zero, end), pair(zero, pair(zero, zero)), pair(zero, pair(zero, end)), pair(zero, pair(one, zero)),
		pair(num("1", "2"), zero), pair(one, zero), pair(one, one), pair(str(""), zero), pair(str("a"), zero), pair(sym("b", "a"), zero), pair(sym("a", "b"), zero), pair(end, zero), pair(end, end),
		pair(pair(zero, zero), zero), pair(pair(zero, zero), end), pair(pair(zero, one), zero), pair(pair(zero, pair(zero, zero)), zero), pair(pair(one, zero), zero), pair(pair(pair(zero, zero), zero), zero),
	}
}

func TestCompare(t *testing.T) {
	l := ascending()
	for i := range l {
		expectValid(t, l[i], true)
		for j := range l {
			if got := Compare(l[i], copied(l[j])); got != cmp.Compare(i, j) {
				t.Errorf("Compare(%s, %s): %d", show(l[i]), show(l[j]), got)
			}
		}
	}
}

func TestCompareOfTheChapter(t *testing.T) {
	if Compare(Text("b"), Symbol(api.Symbol{Package: "lisp", Name: "a"})) != -1 {
		t.Error("the string b is not before the symbol lisp::a")
	}
}

// rat returns the value of a number, and 0 for other objects.
func rat(o api.Object) *big.Rat {
	x := new(big.Rat)
	if o.Kind == api.KindNumber {
		x.SetString(o.Num + "/" + o.Den)
	}
	return x
}

// order compares valid objects by another way than Compare.
func order(a, b api.Object) int {
	kinds := []int{api.KindNumber: 0, api.KindString: 1, api.KindSymbol: 2, api.KindCons: 3}
	if a.Kind != b.Kind {
		return cmp.Compare(kinds[a.Kind], kinds[b.Kind])
	}
	if a.Kind == api.KindNumber {
		return rat(a).Cmp(rat(b))
	}
	if a.Kind == api.KindCons {
		return cmp.Or(order(a.Pair[0], b.Pair[0]), order(a.Pair[1], b.Pair[1]))
	}
	return cmp.Or(cmp.Compare(a.Text, b.Text), cmp.Compare(a.Sym.Name, b.Sym.Name), cmp.Compare(a.Sym.Package, b.Sym.Package))
}

func TestEqualAndCompareOfMany(t *testing.T) {
	g := generator(1)
	var l []api.Object
	for range 700 {
		l = append(l, g.object(3))
	}
	for _, a := range l {
		for _, b := range l {
			if got := Compare(a, b); got != order(a, b) {
				t.Fatalf("Compare(%s, %s): %d", show(a), show(b), got)
			}
			if got := Equal(a, b); got != isSame(a, b) {
				t.Fatalf("Equal(%s, %s): %v", show(a), show(b), got)
			}
		}
	}
}

// TestLongObjects: objects at and beyond the limit of nodes are compared to their ends.
func TestLongObjects(t *testing.T) {
	for _, n := range []int{1499, 1500, 4000, 50000} {
		long, longer, other := chain(n), chain(n+1), copied(chain(n))
		if !Equal(long, other) || Compare(long, other) != 0 {
			t.Errorf("two lists of %d elements", n)
		}
		// A cons comes after nil.
		if Equal(long, longer) || Compare(long, longer) != -1 || Compare(longer, long) != 1 {
			t.Errorf("lists of %d elements and of one more", n)
		}
		deep, deeper := carChain(n), carChain(n+1)
		if !Equal(deep, carChain(n)) || Compare(deep, carChain(n)) != 0 || Equal(deep, deeper) || Compare(deep, deeper) != -1 {
			t.Errorf("%d nested cars", n)
		}
	}
}
