package primitive

import (
	"slices"
	"strings"
	"testing"

	"lispprover/api"
)

// row is a primitive as the table of the chapter has it.
type row struct {
	name  string
	arity int
}

func rows() []row {
	return []row{
		{"if", 3}, {"equal", 2}, {"cons", 2}, {"car", 1}, {"cdr", 1}, {"consp", 1}, {"symbolp", 1}, {"stringp", 1}, {"rationalp", 1}, {"integerp", 1},
		{"binary-+", 2}, {"binary-*", 2}, {"unary--", 1}, {"unary-/", 1}, {"<", 2}, {"numerator", 1}, {"denominator", 1}, {"floor", 1},
		{"symbol-name", 1}, {"symbol-package-name", 1}, {"intern", 2}, {"string-append", 2}, {"string-length", 1}, {"string-byte", 2}, {"byte-string", 1},
	}
}

// strangers are symbols that are no primitives.
func strangers() []api.Symbol {
	l := []api.Symbol{{}, {Package: "lisp"}, {Name: "car"}, {Package: "car", Name: "lisp"}, {Package: "", Name: "if"}}
	for _, r := range rows() {
		for _, pack := range []string{"user", "Lisp", "lisp ", "lisp::", ""} {
			l = append(l, api.Symbol{Package: pack, Name: r.name})
		}
		for _, name := range []string{strings.ToUpper(r.name) + "!", r.name + " ", " " + r.name, r.name[1:], "lisp::" + r.name, r.name + "\x00"} {
			l = append(l, lisp(name))
		}
	}
	for _, name := range []string{"nil", "t", "quote", "not", "and", "+", "*", "-", "/", "unary-+", "binary--", "binary-/", "natp", "zp", "list", "append", "len", "ceiling", "string-bytes", "IF", "Car"} {
		l = append(l, lisp(name))
	}
	return l
}

// P7.1

func TestNames(t *testing.T) {
	var want []api.Symbol
	for _, r := range rows() {
		want = append(want, api.Symbol{Package: "lisp", Name: r.name})
	}
	if got := Names(); !slices.Equal(got, want) {
		t.Errorf("Names: %v", got)
	}
	// what a caller does with the names does not show in later ones
	clear(Names())
	_ = append(Names()[:3], lisp("x"))
	if got := Names(); !slices.Equal(got, want) {
		t.Errorf("Names, later: %v", got)
	}
}

func TestArity(t *testing.T) {
	for _, r := range rows() {
		if n, is := Arity(lisp(r.name)); n != r.arity || !is {
			t.Errorf("Arity(%s): %d, %v", r.name, n, is)
		}
	}
	for _, f := range strangers() {
		if n, is := Arity(f); n != 0 || is {
			t.Errorf("Arity(%v): %d, %v", f, n, is)
		}
	}
}

// P7.2: the values

func TestIf(t *testing.T) {
	a, b := whole("1"), str("b")
	expect(t, "if", b, null(), a, b)
	for _, o := range []api.Object{truth(), atom("user", "nil"), whole("0"), str(""), str("nil"), list(null()), pair(null(), null()), atom("lisp", "NIL"), atom("lisp", "nil ")} {
		expect(t, "if", a, o, a, b)
	}
	expect(t, "if", null(), null(), truth(), null())
	expect(t, "if", null(), truth(), null(), truth())
	expect(t, "if", chain(1499), null(), chain(2), chain(1499))
}

func TestEqual(t *testing.T) {
	l := append(samples(), left(1499), left(1498))
	for i, a := range l {
		for j, b := range l {
			want := null()
			if i == j {
				want = truth()
			}
			expect(t, "equal", want, a, b)
		}
	}
	expect(t, "equal", truth(), list(whole("1"), str("a")), list(whole("1"), str("a")))
	expect(t, "equal", null(), list(whole("1"), str("a")), list(whole("1"), str("b")))
}

func TestConses(t *testing.T) {
	a, b := whole("1"), str("b")
	expect(t, "cons", pair(a, b), a, b)
	expect(t, "cons", list(a, b), a, list(b))
	expect(t, "car", a, pair(a, b))
	expect(t, "cdr", b, pair(a, b))
	expect(t, "car", list(a), list(list(a), b))
	expect(t, "cdr", list(b), list(list(a), b))
	expect(t, "cdr", null(), list(a))
	for _, o := range []api.Object{null(), truth(), whole("5"), ratio("1", "2"), str("ab"), str(""), atom("user", "x")} {
		expect(t, "car", null(), o)
		expect(t, "cdr", null(), o)
	}
	expect(t, "car", left(1498), left(1499))
	expect(t, "cdr", chain(1498), chain(1499))
}

func TestRecognizers(t *testing.T) {
	for _, c := range []struct {
		o    api.Object
		what string
	}{
		{pair(whole("1"), whole("2")), "consp"}, {list(null()), "consp"},
		{null(), "symbolp"}, {truth(), "symbolp"}, {atom("user", "1"), "symbolp"},
		{str(""), "stringp"}, {str("1"), "stringp"},
		{ratio("1", "2"), "rationalp"}, {ratio("-7", "3"), "rationalp"},
		{whole("0"), "rationalp integerp"}, {whole("-5"), "rationalp integerp"}, {whole(nines()), "rationalp integerp"},
	} {
		for _, name := range []string{"consp", "symbolp", "stringp", "rationalp", "integerp"} {
			want := null()
			if slices.Contains(strings.Fields(c.what), name) {
				want = truth()
			}
			expect(t, name, want, c.o)
		}
	}
}

func TestArithmetic(t *testing.T) {
	half, third := ratio("1", "2"), ratio("1", "3")
	expect(t, "binary-+", ratio("5", "6"), half, third)
	expect(t, "binary-+", whole("1"), half, half)
	expect(t, "binary-+", whole("0"), half, ratio("-1", "2"))
	expect(t, "binary-+", half, half, str("7"))
	expect(t, "binary-+", half, null(), half)
	expect(t, "binary-+", whole("0"), truth(), list(half))
	expect(t, "binary-*", ratio("1", "6"), half, third)
	expect(t, "binary-*", whole("-1"), half, whole("-2"))
	expect(t, "binary-*", whole("0"), half, str("7"))
	expect(t, "binary-*", whole("0"), null(), half)
	expect(t, "unary--", ratio("-1", "2"), half)
	expect(t, "unary--", whole("3"), whole("-3"))
	expect(t, "unary--", whole("0"), whole("0"))
	expect(t, "unary--", whole("0"), str("3"))
	expect(t, "unary-/", whole("2"), half)
	expect(t, "unary-/", ratio("-3", "2"), ratio("-2", "3"))
	expect(t, "unary-/", ratio("-1", "5"), whole("-5"))
	expect(t, "unary-/", whole("0"), whole("0"))
	expect(t, "unary-/", whole("0"), null())
	expect(t, "unary-/", whole("0"), str("2"))
}

func TestLess(t *testing.T) {
	half, third := ratio("1", "2"), ratio("1", "3")
	for _, c := range [][2]api.Object{
		{third, half}, {ratio("-1", "2"), ratio("-1", "3")}, {whole("9"), whole("10")}, {whole("-10"), whole("-9")}, {ratio("-1", "7"), whole("0")},
		{null(), third}, {str("9"), third}, {whole("-1"), truth()}, {whole("-1"), list(whole("-5"))},
	} {
		expect(t, "<", truth(), c[0], c[1])
		expect(t, "<", null(), c[1], c[0])
	}
	for _, c := range [][2]api.Object{{half, half}, {null(), whole("0")}, {whole("0"), str("1")}, {str("a"), str("b")}, {atom("lisp", "a"), atom("lisp", "b")}} {
		expect(t, "<", null(), c[0], c[1])
		expect(t, "<", null(), c[1], c[0])
	}
}

func TestPartsOfNumbers(t *testing.T) {
	for _, c := range []struct {
		o               api.Object
		num, den, floor string
	}{
		{whole("0"), "0", "1", "0"}, {whole("7"), "7", "1", "7"}, {whole("-7"), "-7", "1", "-7"},
		{ratio("7", "2"), "7", "2", "3"}, {ratio("-7", "2"), "-7", "2", "-4"}, {ratio("1", "3"), "1", "3", "0"}, {ratio("-1", "3"), "-1", "3", "-1"},
		{ratio("-1", nines()), "-1", nines(), "-1"}, {whole("-" + nines()), "-" + nines(), "1", "-" + nines()}, {ratio("-"+nines(), "2"), "-" + nines(), "2", "-5" + many("0", api.MaxDigits-1)},
		{str("7"), "0", "1", "0"}, {null(), "0", "1", "0"}, {truth(), "0", "1", "0"}, {pair(whole("7"), whole("2")), "0", "1", "0"},
	} {
		expect(t, "numerator", whole(c.num), c.o)
		expect(t, "denominator", whole(c.den), c.o)
		expect(t, "floor", whole(c.floor), c.o)
	}
}

func TestPartsOfSymbols(t *testing.T) {
	longest := many("n", api.MaxName)
	for _, c := range [][2]string{{"lisp", "nil"}, {"lisp", "t"}, {"user", "a b"}, {"a-1", "\x00\xff"}, {longest, longest}, {"lisp", "::"}} {
		expect(t, "symbol-name", str(c[1]), atom(c[0], c[1]))
		expect(t, "symbol-package-name", str(c[0]), atom(c[0], c[1]))
	}
	for _, o := range []api.Object{str("a"), str(""), whole("1"), list(truth())} {
		expect(t, "symbol-name", str(""), o)
		expect(t, "symbol-package-name", str(""), o)
	}
}

func TestIntern(t *testing.T) {
	longest := many("n", api.MaxName)
	for _, c := range [][2]string{{"a", "lisp"}, {"nil", "lisp"}, {"t", "lisp"}, {"nil", "user"}, {"x y", "nobody-1"}, {"\x00", "a"}, {"\xff|", "z9-"}, {longest, longest}, {"lisp", "car"}, {"A", "a"}} {
		expect(t, "intern", atom(c[1], c[0]), str(c[0]), str(c[1]))
	}
	for _, c := range [][2]string{{"", "lisp"}, {"a", ""}, {"", ""}, {longest + "n", "lisp"}, {"a", longest + "n"}, {"a", "Lisp"}, {"a", "1a"}, {"a", "-"}, {"a", "a b"}, {"a", "a::"}, {"a", "lisp "}, {"a", "\xc3\xa4"}} {
		expect(t, "intern", null(), str(c[0]), str(c[1]))
	}
	for _, o := range []api.Object{null(), truth(), whole("1"), atom("lisp", "lisp"), list(str("lisp"))} {
		expect(t, "intern", null(), str("a"), o)
		expect(t, "intern", null(), o, str("lisp"))
		expect(t, "intern", null(), o, o)
	}
}

func TestStrings(t *testing.T) {
	expect(t, "string-append", str("abc"), str("ab"), str("c"))
	expect(t, "string-append", str("\xc3\xa4\x00"), str("\xc3"), str("\xa4\x00"))
	expect(t, "string-append", str("ab"), str("ab"), str(""))
	expect(t, "string-append", str(""), str(""), str(""))
	for _, o := range []api.Object{null(), truth(), whole("1"), atom("user", "x"), list(str("x"))} {
		expect(t, "string-append", str("ab"), str("ab"), o)
		expect(t, "string-append", str("ab"), o, str("ab"))
		expect(t, "string-append", str(""), o, o)
		expect(t, "string-length", whole("0"), o)
	}
	for s, want := range map[string]string{"": "0", "a": "1", "\x00": "1", "\xc3\xa4": "2", "ab\xff": "3", many("s", api.MaxText): "200"} {
		expect(t, "string-length", whole(want), str(s))
	}
}

func TestBytes(t *testing.T) {
	s := str("ab\x00\xff\xc3\xa4")
	for i, want := range []string{"97", "98", "0", "255", "195", "164"} {
		expect(t, "string-byte", whole(want), s, whole(string(rune('0'+i))))
	}
	longest := str(many("s", api.MaxText-1) + "t")
	expect(t, "string-byte", whole("116"), longest, whole("199"))
	expect(t, "string-byte", null(), longest, whole("200"))
	for _, i := range []api.Object{whole("6"), whole("-1"), whole("7"), ratio("1", "2"), whole(nines()), whole("-" + nines()), whole("4294967296"), whole("18446744073709551616"), whole("-18446744073709551615"), whole("1000000000"), null(), str("1"), list(whole("1"))} {
		expect(t, "string-byte", null(), s, i)
	}
	expect(t, "string-byte", null(), str(""), whole("0"))
	for _, o := range []api.Object{null(), truth(), whole("1"), atom("user", "x"), list(str("x"))} {
		expect(t, "string-byte", null(), o, whole("0"))
	}
	for i := range 256 {
		b := string([]byte{byte(i)})
		n, err := Apply(lisp("string-byte"), str(b), whole("0"))
		if err != api.OK {
			t.Errorf("string-byte: %d", err)
		}
		expect(t, "byte-string", str(b), n)
	}
	expect(t, "byte-string", str("\x00"), whole("0"))
	expect(t, "byte-string", str("b"), whole("98"))
	expect(t, "byte-string", str("\xff"), whole("255"))
	for _, o := range []api.Object{whole("256"), whole("-1"), whole("-98"), ratio("1", "2"), ratio("196", "3"), whole("354"), whole("4294967394"), whole("18446744073709551714"), whole(nines()), null(), truth(), str("98"), list(whole("98"))} {
		expect(t, "byte-string", str(""), o)
	}
}

func TestExamplesOfTheChapter(t *testing.T) {
	expect(t, "unary-/", whole("0"), whole("0"))
	expect(t, "string-byte", whole("98"), str("ab"), whole("1"))
	expectGuard(t, "car", false, whole("5"))
}

// P7.2: the errors

// TestUnknownFunctions: ErrFunction comes before ErrArity and ErrLimit.
func TestUnknownFunctions(t *testing.T) {
	half := chain(800)
	for _, f := range strangers() {
		expectError(t, f, api.ErrFunction)
		expectError(t, f, api.ErrFunction, whole("1"))
		expectError(t, f, api.ErrFunction, half, half)
		expectError(t, f, api.ErrFunction, truth(), half, half)
		expectError(t, f, api.ErrFunction, half, half, half, half)
	}
}

// TestArities: ErrArity comes before ErrLimit.
func TestArities(t *testing.T) {
	half := chain(800)
	for _, r := range rows() {
		for n := range 10 {
			if n != r.arity {
				expectError(t, lisp(r.name), api.ErrArity, slices.Repeat([]api.Object{half}, n)...)
				expectError(t, lisp(r.name), api.ErrArity, slices.Repeat([]api.Object{{}}, n)...)
			}
		}
	}
}

func TestLimits(t *testing.T) {
	power := "1" + many("0", api.MaxDigits-1)
	expect(t, "cons", pair(whole("1"), chain(1498)), whole("1"), chain(1498))
	expect(t, "cons", pair(chain(1498), whole("1")), chain(1498), whole("1"))
	expect(t, "cons", pair(chain(749), chain(749)), chain(749), chain(749))
	expectLimit(t, "cons", whole("1"), chain(1499))
	expectLimit(t, "cons", chain(1499), whole("1"))
	expectLimit(t, "cons", chain(750), chain(749))
	expect(t, "binary-+", whole(nines()), whole(nines()), whole("0"))
	expect(t, "binary-+", whole("9"+many("0", api.MaxDigits-1)), whole("8"+many("0", api.MaxDigits-1)), whole(power))
	expectLimit(t, "binary-+", whole(nines()), whole("1"))
	expectLimit(t, "binary-+", whole("-"+nines()), whole("-1"))
	expectLimit(t, "binary-+", whole(nines()), ratio("1", "2"))
	expectLimit(t, "binary-+", ratio("1", nines()), ratio("1", power))
	expect(t, "binary-+", whole("0"), ratio("1", nines()), ratio("-1", nines()))
	expect(t, "binary-*", whole("1"), whole(nines()), ratio("1", nines()))
	expect(t, "binary-*", whole(power), whole("1"+many("0", 49)), whole("1"+many("0", 50)))
	expectLimit(t, "binary-*", whole("1"+many("0", 50)), whole("1"+many("0", 50)))
	expectLimit(t, "binary-*", ratio("1", "1"+many("0", 50)), ratio("1", "1"+many("0", 50)))
	expectLimit(t, "binary-*", whole(nines()), whole("-2"))
	expect(t, "string-append", str(many("a", 100)+many("b", 100)), str(many("a", 100)), str(many("b", 100)))
	expect(t, "string-append", str(many("a", 200)), str(many("a", 200)), whole("1"))
	expectLimit(t, "string-append", str(many("a", 100)), str(many("b", 101)))
	expectLimit(t, "string-append", str("a"), str(many("b", 200)))
	expect(t, "unary-/", ratio("1", nines()), whole(nines()))
	expect(t, "unary--", whole("-"+nines()), whole(nines()))
}
