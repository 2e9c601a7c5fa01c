package object

import (
	"slices"
	"strings"
	"testing"

	"lispprover/api"
)

func expectValid(t *testing.T, o api.Object, want bool) {
	t.Helper()
	if Valid(o) != want {
		t.Errorf("Valid(%s): %v", show(o), !want)
	}
}

// P2.1: Valid

func TestValidNumbers(t *testing.T) {
	nines, power := strings.Repeat("9", api.MaxDigits), "1"+strings.Repeat("0", api.MaxDigits-1)
	for _, c := range [][2]string{
		{"0", "1"}, {"1", "1"}, {"-1", "1"}, {"2", "1"}, {"1", "2"}, {"-1", "2"}, {"3", "2"}, {"4", "9"}, {"-10", "21"},
		{nines, "1"}, {"-" + nines, "1"}, {"1", nines}, {"-1", nines}, {nines, power}, {"-" + nines, power},
	} {
		expectValid(t, num(c[0], c[1]), true)
	}
	for _, c := range [][2]string{
		// not in lowest terms
		{"0", "2"}, {"2", "2"}, {"-2", "2"}, {"2", "4"}, {"-4", "2"}, {"6", "9"}, {"35", "21"}, {nines, nines}, {power, "10"},
		// a denominator that is not positive
		{"0", "0"}, {"1", "0"}, {"0", "-1"}, {"1", "-1"}, {"-1", "-2"}, {"1", "-2"},
		// not decimals
		{"", ""}, {"1", ""}, {"", "1"}, {"01", "1"}, {"1", "01"}, {"-0", "1"}, {"+1", "1"}, {"1", "+1"}, {"x", "1"}, {"1", "x"}, {"1.0", "1"}, {" 1", "1"}, {"1/1", "1"}, {"00", "1"}, {"x", "x"},
		// too many digits
		{"1" + nines, "1"}, {"-1" + nines, "1"}, {"1", "1" + nines}, {power + "0", power + "1"}, {strings.Repeat("7", 500), "1"},
	} {
		expectValid(t, num(c[0], c[1]), false)
	}
}

func TestValidSymbols(t *testing.T) {
	for _, pack := range []string{"a", "z", "lisp", "m2", "a-b-9", "a--", "z0123456789", strings.Repeat("a", api.MaxName), "abcdefghijklmnopqrstuvwxyz"} {
		expectValid(t, sym(pack, "x"), true)
	}
	for _, pack := range []string{"", "0", "-", "0a", "-a", "A", "aB", "Lisp", "a_b", "a b", " a", "a ", "a:", "a\x00", "\u00e4", "a\u00e4", strings.Repeat("a", api.MaxName+1), strings.Repeat("a", api.MaxName-1) + "A"} {
		expectValid(t, sym(pack, "x"), false)
	}
	for _, name := range []string{"x", "nil", "A b", "\x00", "\xff\xfe", "|", "::", strings.Repeat("\u00e4", api.MaxName/2), strings.Repeat("\xff", api.MaxName)} {
		expectValid(t, sym("lisp", name), true)
	}
	for _, name := range []string{"", strings.Repeat("x", api.MaxName+1), strings.Repeat("\u00e4", api.MaxName/2+1)} {
		expectValid(t, sym("lisp", name), false)
	}
	expectValid(t, sym("", ""), false)
}

func TestValidBytes(t *testing.T) {
	for i := range 256 {
		c := byte(i)
		first := strings.IndexByte("abcdefghijklmnopqrstuvwxyz", c) >= 0
		later := first || strings.IndexByte("0123456789-", c) >= 0
		expectValid(t, sym(string([]byte{c}), "x"), first)
		expectValid(t, sym(string([]byte{'q', c}), "x"), later)
		expectValid(t, sym(string([]byte{'q', c, 'q'}), "x"), later)
		expectValid(t, sym("q", string([]byte{c})), true)
		expectValid(t, str(string([]byte{c})), true)
	}
}

func TestValidStrings(t *testing.T) {
	for _, s := range []string{"", "a", "\x00", "\xff\"\\", strings.Repeat("a", api.MaxText), strings.Repeat("\u00e4", api.MaxText/2)} {
		expectValid(t, str(s), true)
	}
	for _, s := range []string{strings.Repeat("a", api.MaxText+1), strings.Repeat("\u00e4", api.MaxText/2+1)} {
		expectValid(t, str(s), false)
	}
}

func TestValidConses(t *testing.T) {
	one, bad := num("1", "1"), num("2", "2")
	for _, o := range []api.Object{pair(one, one), pair(one, pair(str(""), sym("a", "b"))), pair(pair(one, one), one), chain(100), carChain(100), double(9, one)} {
		expectValid(t, o, true)
	}
	for _, l := range [][]api.Object{nil, {}, {one}, {one, one, one}, {one, one, one, one}, {one, bad}, {bad, one}, {bad, bad}, {one, {}}, {{}, one}} {
		expectValid(t, pair(l...), false)
		expectValid(t, pair(one, pair(l...)), false)
		expectValid(t, pair(pair(l...), one), false)
	}
	for _, o := range []api.Object{str(strings.Repeat("a", api.MaxText+1)), sym("A", "x"), api.Object{Kind: 5}} {
		expectValid(t, pair(o, one), false)
		expectValid(t, pair(one, pair(one, pair(o, one))), false)
	}
}

// TestValidNodes has objects at the limit of nodes and one beyond it. (The number of nodes is odd whenever every Pair has none or two elements.)
func TestValidNodes(t *testing.T) {
	most := (api.MaxNodes - 1) / 2
	expectValid(t, chain(most), true)
	expectValid(t, chain(most+1), false)
	expectValid(t, carChain(most), true)
	expectValid(t, carChain(most+1), false)
	expectValid(t, pair(chain(most/2), carChain(most-1-most/2)), true)
	expectValid(t, pair(chain(most/2), carChain(most-most/2)), false)
	expectValid(t, bush(10, T()), true)
	expectValid(t, bush(11, T()), false)
	expectValid(t, double(11, T()), false)
}

// withForeignFields returns o with each field set that it does not have.
func withForeignFields(o api.Object) []api.Object {
	var l []api.Object
	change := func(f func(o *api.Object)) {
		changed := o
		f(&changed)
		l = append(l, changed)
	}
	if o.Kind != api.KindNumber {
		change(func(o *api.Object) { o.Num, o.Den = "1", "1" })
		change(func(o *api.Object) { o.Num = "0" })
		change(func(o *api.Object) { o.Den = "1" })
	}
	if o.Kind != api.KindSymbol {
		change(func(o *api.Object) { o.Sym = api.Symbol{Package: "lisp", Name: "nil"} })
		change(func(o *api.Object) { o.Sym.Name = "x" })
		change(func(o *api.Object) { o.Sym.Package = "x" })
	}
	if o.Kind != api.KindString {
		change(func(o *api.Object) { o.Text = "x" })
	}
	if o.Kind != api.KindCons {
		change(func(o *api.Object) { o.Pair = []api.Object{Nil(), Nil()} })
		change(func(o *api.Object) { o.Pair = []api.Object{Nil()} })
		change(func(o *api.Object) { o.Pair = []api.Object{{}} })
	}
	return l
}

func TestValidForeignFields(t *testing.T) {
	for _, o := range []api.Object{num("0", "1"), num("1", "2"), sym("lisp", "nil"), sym("a", "b"), str(""), str("a"), pair(Nil(), T())} {
		expectValid(t, o, true)
		for _, bad := range withForeignFields(o) {
			expectValid(t, bad, false)
			expectValid(t, pair(bad, Nil()), false)
			expectValid(t, pair(Nil(), bad), false)
		}
		if o.Kind != api.KindCons {
			o.Pair = []api.Object{}
			expectValid(t, o, true)
		}
	}
}

func TestValidKinds(t *testing.T) {
	whole := api.Object{Num: "1", Den: "1", Sym: api.Symbol{Package: "a", Name: "b"}, Text: "x", Pair: []api.Object{Nil(), Nil()}}
	for kind := -2; kind <= 7; kind++ {
		whole.Kind = kind
		expectValid(t, whole, false)
		expectValid(t, api.Object{Kind: kind}, kind == api.KindString)
		expectValid(t, api.Object{Kind: kind, Num: "1", Den: "1"}, kind == api.KindNumber)
		expectValid(t, api.Object{Kind: kind, Sym: whole.Sym}, kind == api.KindSymbol)
		expectValid(t, api.Object{Kind: kind, Pair: whole.Pair}, kind == api.KindCons)
	}
}

// P2.2: Nodes

func expectNodes(t *testing.T, o api.Object, want int) {
	t.Helper()
	if got := Nodes(o); got != want {
		t.Errorf("Nodes(%s): %d, want %d", show(o), got, want)
	}
}

func TestNodes(t *testing.T) {
	one := num("1", "1")
	for _, o := range []api.Object{one, Nil(), T(), str(strings.Repeat("a", 100)), str(""), api.Object{}} {
		expectNodes(t, o, 1)
	}
	expectNodes(t, pair(one, one), 3)
	expectNodes(t, pair(one, pair(one, one)), 5)
	expectNodes(t, pair(pair(one, one), pair(one, one)), 7)
	for _, n := range []int{0, 1, 2, 50, 1498, 1499} {
		expectNodes(t, chain(n), 2*n+1)
		expectNodes(t, carChain(n), 2*n+1)
	}
	expectNodes(t, bush(10, one), 2047)
	expectNodes(t, double(10, one), 2047)
}

func TestNodesBeyondTheLimit(t *testing.T) {
	for _, n := range []int{1500, 1501, 1502, 3000, 100000} {
		expectNodes(t, chain(n), api.MaxNodes+1)
		expectNodes(t, carChain(n), api.MaxNodes+1)
	}
	for _, n := range []int{11, 12, 40, 5000} {
		expectNodes(t, double(n, T()), api.MaxNodes+1)
	}
	expectNodes(t, bush(11, T()), api.MaxNodes+1)
	expectNodes(t, pair(chain(1499), chain(0)), api.MaxNodes+1)
	expectNodes(t, pair(chain(0), chain(1499)), api.MaxNodes+1)
	expectNodes(t, pair(chain(1000), chain(498)), 2999)
}

// TestNodesOfAnyKind: what counts is whether Pair has two elements.
func TestNodesOfAnyKind(t *testing.T) {
	two := []api.Object{Nil(), pair(T(), T())}
	for kind := -1; kind <= 6; kind++ {
		expectNodes(t, api.Object{Kind: kind, Num: "x", Text: "y"}, 1)
		expectNodes(t, api.Object{Kind: kind, Pair: two}, 5)
		expectNodes(t, api.Object{Kind: kind, Pair: two[:1]}, 1)
		expectNodes(t, api.Object{Kind: kind, Pair: []api.Object{}}, 1)
		expectNodes(t, api.Object{Kind: kind, Pair: slices.Concat(two, two)}, 1)
		expectNodes(t, api.Object{Kind: kind, Pair: append(slices.Clone(two), T())}, 1)
		expectNodes(t, pair(api.Object{Kind: kind, Pair: two}, pair(two[1])), 7)
	}
}
