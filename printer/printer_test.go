package printer

import (
	"testing"

	"lispprover/api"
)

// P6.1

func TestNameOfVisibleSymbols(t *testing.T) {
	l := packages()
	expectName(t, l, "user", sym("user", "x"), "x")
	expectName(t, l, "user", sym("lisp", "car"), "car")
	expectName(t, l, "user", sym("lisp", "nil"), "nil")
	expectName(t, l, "lisp", sym("lisp", "cdr"), "cdr")
	expectName(t, l, "b", sym("user", "x"), "x")
	expectName(t, l, "c", sym("b", "y"), "y")
}

func TestNameOfOtherSymbols(t *testing.T) {
	l := packages()
	expectName(t, l, "user", sym("lisp", "cdr"), "lisp::cdr")
	expectName(t, l, "user", sym("b", "y"), "b::y")
	expectName(t, l, "b", sym("user", "y"), "user::y")
	expectName(t, l, "b", sym("lisp", "nil"), "lisp::nil")
	expectName(t, l, "b", sym("lisp", "x"), "lisp::x")
	expectName(t, l, "lisp", sym("user", "x"), "user::x")
}

func TestWords(t *testing.T) {
	words := []string{"a", "A", "-", "--", "-a", "+", "+1", "1+", "1-", "1a", "1/", "/1", "-/1", "1/-2", "1//2", "1/2/3", "--1", "1.5", "..", "...", "a.b", "#", "#a", "a#", "/", "-/", "!#$%&*+,-./<=>?@[]^_`{}~", many("n", api.MaxName)}
	for _, s := range words {
		expectName(t, packages(), "user", sym("user", s), s)
		expectName(t, packages(), "user", sym("b", s), "b::"+s)
	}
}

// TestNumbersAndDot: names that would be something else are words only after a package.
func TestNumbersAndDot(t *testing.T) {
	names := []string{".", "0", "7", "12", "007", "-1", "-0", "1/2", "-1/2", "2/4", "1/0", "0/0", "00/00", "-12/034", many("9", api.MaxName), "-" + many("9", api.MaxName-3) + "/1"}
	for _, s := range names {
		expectName(t, packages(), "user", sym("user", s), "|"+s+"|")
		expectName(t, packages(), "user", sym("b", s), "b::"+s)
	}
	// these imports are visible
	expectName(t, packages(), "c", sym("lisp", "12"), "|12|")
	expectName(t, packages(), "c", sym("lisp", "."), "|.|")
	expectName(t, packages(), "user", sym("lisp", "12"), "lisp::12")
	expectName(t, packages(), "user", sym("lisp", "."), "lisp::.")
}

func TestBars(t *testing.T) {
	names := []string{" ", "a b", " a", "a ", "\t", "\n", "a\n", "\r", "(", ")", "a(b)", "'", "'a", "\"", "\"a\"", ";", "a;", ":", "a:", ":a", "a:b", "a::b", "user::x", "::", "\x00", "\x1f", "\x7f", "\x80", "\xff", "é", "aé", "é b", "\xc3", "\xc3a", "€", "\ufffd", "𝄞", "1 2", "1/ 2", ". ", "#(", many(" ", api.MaxName)}
	for _, s := range names {
		expectName(t, packages(), "user", sym("user", s), "|"+s+"|")
		expectName(t, packages(), "user", sym("b", s), "b::|"+s+"|")
	}
	expectName(t, packages(), "c", sym("lisp", "x y"), "|x y|")
	expectName(t, packages(), "b", sym("lisp", "x y"), "lisp::|x y|")
}

func TestBarsWithEscapes(t *testing.T) {
	for name, want := range map[string]string{
		"|":                       `|\||`,
		`\`:                       "\\",
		"||":                      `|\|\||`,
		`\|`:                      `|\\\||`,
		`|\`:                      `|\|\\|`,
		"a|b":                     `|a\|b|`,
		"|a|":                     `|\|a\||`,
		`\ `:                      `|\\ |`,
		`a\b(`:                    `|a\\b(|`,
		`\"'`:                     `|\\"'|`,
		"#|":                      `|#\||`,
		"#||#":                    `|#\|\|#|`,
		"\xff|\xc3\\\xe2\x82|":    "|\xff\\|\xc3\\\\\xe2\x82\\||",
		"é|€":                     `|é\|€|`,
		many("|", api.MaxName):    "|" + many(`\|`, api.MaxName) + "|",
		many(`\|`, api.MaxName/2): "|" + many(`\\\|`, api.MaxName/2) + "|",
	} {
		expectName(t, packages(), "user", sym("user", name), want)
		expectName(t, packages(), "user", sym("b", name), "b::"+want)
	}
}

func TestNameErrors(t *testing.T) {
	l := packages()
	for _, s := range []api.Symbol{{}, sym("user", ""), sym("", "x"), sym("A", "x"), sym("a b", "x"), sym("-", "x"), sym("user", many("n", api.MaxName+1)), sym(many("p", api.MaxName+1), "x")} {
		expectNameError(t, l, "user", s, api.ErrForm)
		expectNameError(t, l, "none", s, api.ErrForm)
		expectNameError(t, nil, "user", s, api.ErrForm)
	}
	for _, s := range []api.Symbol{sym("none", "x"), sym("user", "car"), sym("user", "nil"), sym("b", "x"), sym("c", "12")} {
		expectNameError(t, l, "user", s, api.ErrPackage)
		expectNameError(t, l, s.Package, s, api.ErrPackage)
	}
	for _, current := range []string{"none", "", "User", "user ", many("p", api.MaxName+1)} {
		expectNameError(t, l, current, sym("user", "x"), api.ErrPackage)
	}
	expectNameError(t, nil, "lisp", sym("lisp", "car"), api.ErrPackage)
}

// P6.2

func TestNumbers(t *testing.T) {
	expectPrint(t, whole("0"), "0")
	expectPrint(t, whole("7"), "7")
	expectPrint(t, whole("-12"), "-12")
	expectPrint(t, ratio("1", "2"), "1/2")
	expectPrint(t, ratio("-3", "10"), "-3/10")
	long := "1" + many("0", api.MaxDigits-1)
	expectPrint(t, ratio("-"+many("9", api.MaxDigits), long), "-"+many("9", api.MaxDigits)+"/"+long)
}

func TestStrings(t *testing.T) {
	for s, want := range map[string]string{
		"":                       `""`,
		"abc":                    `"abc"`,
		"a b":                    `"a b"`,
		`"`:                      `"\""`,
		`\`:                      `"\\"`,
		`a"b\c`:                  `"a\"b\\c"`,
		`""`:                     `"\"\""`,
		`\"`:                     `"\\\""`,
		`"\`:                     `"\"\\"`,
		"|":                      `"|"`,
		"'();:#|":                `"'();:#|"`,
		"\n\t\r\x00":             "\"\n\t\r\x00\"",
		"é€":                     `"é€"`,
		"\xff\"\xc3\\\xe2\x82\"": "\"\xff\\\"\xc3\\\\\xe2\x82\\\"\"",
		many("s", api.MaxText):   `"` + many("s", api.MaxText) + `"`,
		many(`"`, api.MaxText):   `"` + many(`\"`, api.MaxText) + `"`,
	} {
		expectPrint(t, text(s), want)
	}
}

func TestLists(t *testing.T) {
	a, b, c := user("a"), user("b"), user("c")
	expectPrint(t, list(), "nil")
	expectPrint(t, list(a), "(a)")
	expectPrint(t, list(a, b), "(a b)")
	expectPrint(t, list(a, ratio("1", "2"), text("s"), lisp("cdr")), `(a 1/2 "s" lisp::cdr)`)
	expectPrint(t, list(list(), list()), "(nil nil)")
	expectPrint(t, list(list(list())), "((nil))")
	expectPrint(t, list(list(a), list(b, list(c))), "((a) (b (c)))")
	expectPrint(t, cons(list(a, b), list(c)), "((a b) c)")
	expectPrintIn(t, packages(), "b", list(), "lisp::nil")
	expectPrintIn(t, packages(), "b", list(list(), user("x"), a), "(lisp::nil x user::a)")
	expectPrintIn(t, packages(), "c", list(lisp("12"), lisp("."), whole("12")), "(|12| |.| 12)")
}

func TestDottedLists(t *testing.T) {
	a, b, c := user("a"), user("b"), user("c")
	expectPrint(t, cons(a, b), "(a . b)")
	expectPrint(t, dotted(c, a, b), "(a b . c)")
	expectPrint(t, cons(a, whole("1")), "(a . 1)")
	expectPrint(t, cons(a, text("")), `(a . "")`)
	expectPrint(t, cons(list(), lisp("t")), "(nil . t)")
	expectPrint(t, cons(cons(a, b), c), "((a . b) . c)")
	expectPrint(t, cons(a, user("|")), `(a . |\||)`)
	expectPrint(t, cons(user("."), user(".")), "(|.| . |.|)")
	expectPrint(t, cons(a, user("NIL")), "(a . NIL)")
	expectPrintIn(t, packages(), "b", cons(user("x"), atom("b", "nil")), "(x . nil)")
}

func TestQuotes(t *testing.T) {
	a, q := user("a"), lisp("quote")
	expectPrint(t, quote(list(a, ratio("1", "2"))), "'(a 1/2)")
	expectPrint(t, quote(a), "'a")
	expectPrint(t, quote(list()), "'nil")
	expectPrint(t, quote(quote(a)), "''a")
	expectPrint(t, quote(q), "'quote")
	expectPrint(t, quote(text("s")), `'"s"`)
	expectPrint(t, quote(cons(a, a)), "'(a . a)")
	expectPrint(t, quote(user("x y")), "'|x y|")
	expectPrint(t, list(a, quote(a), a), "(a 'a a)")
	expectPrint(t, list(quote(a)), "('a)")
	expectPrint(t, cons(quote(a), quote(a)), "('a quote a)")
	expectPrint(t, list(q, quote(a)), "''a")
	// also where the symbol quote has another text
	expectPrintIn(t, packages(), "b", quote(user("x")), "'x")
	expectPrintIn(t, packages(), "b", list(q), "(lisp::quote)")
}

// TestOtherLists: lists that are not exactly lisp::quote and one more element have no quote mark.
func TestOtherLists(t *testing.T) {
	a, q := user("a"), lisp("quote")
	expectPrint(t, q, "quote")
	expectPrint(t, list(q), "(quote)")
	expectPrint(t, list(q, a, a), "(quote a a)")
	expectPrint(t, cons(q, a), "(quote . a)")
	expectPrint(t, dotted(a, q, a), "(quote a . a)")
	expectPrint(t, list(a, q), "(a quote)")
	expectPrint(t, list(a, q, a), "(a quote a)")
	expectPrint(t, cons(a, quote(a)), "(a quote a)")
	expectPrint(t, list(text("quote"), a), `("quote" a)`)
	expectPrint(t, list(quote(a), a), "('a a)")
	expectPrintIn(t, packages(), "b", list(atom("b", "quote"), user("x")), "(quote x)")
}

func TestPrintErrors(t *testing.T) {
	l := packages()
	for _, o := range brokenObjects() {
		expectPrintError(t, l, "user", o, api.ErrForm)
		expectPrintError(t, l, "none", o, api.ErrForm)
		expectPrintError(t, nil, "user", o, api.ErrForm)
	}
	for _, s := range []api.Object{atom("none", "x"), user("car"), user("nil"), atom("b", "x")} {
		for _, o := range []api.Object{s, list(s), list(whole("1"), s), cons(whole("1"), s), quote(s), list(list(list(s), text("a"))), cons(s, whole("1"))} {
			expectPrintError(t, l, "user", o, api.ErrPackage)
			expectPrintError(t, l, s.Sym.Package, o, api.ErrPackage)
		}
	}
	for _, o := range []api.Object{whole("1"), text(""), list(), list(user("x"))} {
		for _, current := range []string{"none", "", "User"} {
			expectPrintError(t, l, current, o, api.ErrPackage)
		}
		expectPrintError(t, nil, "user", o, api.ErrPackage)
	}
}

// TestHiddenSymbols: the symbols nil and quote must be Home even where they are not printed.
func TestHiddenSymbols(t *testing.T) {
	without := []api.Package{{Name: "user"}}
	expectPrintIn(t, without, "user", cons(whole("1"), user("x")), "(1 . x)")
	expectPrintError(t, without, "user", list(whole("1"), user("x")), api.ErrPackage)
	expectPrintError(t, without, "user", quote(user("x")), api.ErrPackage)
	another := []api.Package{{Name: "lisp", Imports: []api.Symbol{sym("user", "quote")}}, {Name: "user"}}
	expectPrintIn(t, another, "lisp", list(user("quote"), whole("1")), "(quote 1)")
	expectPrintError(t, another, "user", quote(whole("1")), api.ErrPackage)
}
