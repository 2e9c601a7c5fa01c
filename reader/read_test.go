package reader

import (
	"testing"

	"lispprover/api"
)

// P5.2

func TestRead(t *testing.T) {
	expectRead(t, "")
	expectRead(t, " ; a\n#|b|#")
	expectRead(t, "(a . (b 2/4))", list(user("a"), user("b"), ratio("1", "2")))
	expectRead(t, "'x", quote(user("x")))
	expectRead(t, "1 -2/6 a", ratio("1", "1"), ratio("-1", "3"), user("a"))
	expectRead(t, `"a\"b" "" |a b|`, text(`a"b`), text(""), user("a b"))
	expectRead(t, "()", lisp("nil"))
	expectRead(t, "() ()", lisp("nil"), lisp("nil"))
	expectRead(t, "(())", list(lisp("nil")))
	expectRead(t, "(a)(b)", list(user("a")), list(user("b")))
	expectRead(t, "(1(2(3)4)5)", list(ratio("1", "1"), list(ratio("2", "1"), list(ratio("3", "1")), ratio("4", "1")), ratio("5", "1")))
	expectRead(t, "(a#|b|#\n;c)\n'd)", list(user("a#"), user("b"), user("#"), quote(user("d"))))
}

func TestQuotes(t *testing.T) {
	expectRead(t, "''x", quote(quote(user("x"))))
	expectRead(t, "'()", quote(lisp("nil")))
	expectRead(t, "'(a 'b)", quote(list(user("a"), quote(user("b")))))
	expectRead(t, "('a)", list(quote(user("a"))))
	expectRead(t, `'1 '"s" 'a`, quote(ratio("1", "1")), quote(text("s")), quote(user("a")))
	expectRead(t, "(' a ' ; b\n(c))", list(quote(user("a")), quote(list(user("c")))))
	expectRead(t, "'(a . b)", quote(cons(user("a"), user("b"))))
	// the symbol quote belongs to the package lisp, whatever the packages are
	for _, l := range [][]api.Package{nil, {{Name: "user"}}, {{Name: "user", Imports: []api.Symbol{{Package: "user", Name: "quote"}}}}, {{Name: "lisp", Imports: []api.Symbol{{Package: "user", Name: "quote"}}}}} {
		expectReadIn(t, l, "user", "'1", quote(ratio("1", "1")))
	}
	expectRead(t, "quote lisp::quote", user("quote"), lisp("quote"))
}

func TestDots(t *testing.T) {
	expectRead(t, "(a . b)", cons(user("a"), user("b")))
	expectRead(t, "(a b . c)", cons(user("a"), cons(user("b"), user("c"))))
	expectRead(t, "(a . ())", list(user("a")))
	expectRead(t, "(a . nil)", list(user("a")))
	expectRead(t, "(a b . (c . (d)))", list(user("a"), user("b"), user("c"), user("d")))
	expectRead(t, "(a . 'b)", list(user("a"), lisp("quote"), user("b")))
	expectRead(t, "('a . 1)", cons(quote(user("a")), ratio("1", "1")))
	expectRead(t, "((a . b) . (c . d))", cons(cons(user("a"), user("b")), cons(user("c"), user("d"))))
	expectRead(t, "(().;)\n#||#\"s\")", cons(lisp("nil"), text("s")))
	expectRead(t, "(a .b)", list(user("a"), user(".b")))
	expectRead(t, "(a. b)", list(user("a."), user("b")))
	expectRead(t, "(a |.| b)", list(user("a"), user("."), user("b")))
	expectRead(t, "(1 .(2))", list(ratio("1", "1"), ratio("2", "1")))
	expectRead(t, "((a).(b))", cons(list(user("a")), list(user("b"))))
}

func TestSymbols(t *testing.T) {
	expectRead(t, "nil t car cdr", lisp("nil"), lisp("t"), lisp("car"), user("cdr"))
	expectRead(t, "NIL |nil| |car| T", user("NIL"), lisp("nil"), lisp("car"), user("T"))
	expectRead(t, "lisp::car lisp::cdr lisp::x", lisp("car"), lisp("cdr"), lisp("x"))
	expectRead(t, "user::car user::x b::x b::car b::|x|", lisp("car"), user("x"), user("x"), atom("b", "car"), user("x"))
	expectRead(t, "b::5 b::1/0 b::. (b::.)", atom("b", "5"), atom("b", "1/0"), atom("b", "."), list(atom("b", ".")))
	expectReadIn(t, packages(), "lisp", "car x user::x", lisp("car"), lisp("x"), user("x"))
	expectReadIn(t, packages(), "b", "x car y", user("x"), atom("b", "car"), atom("b", "y"))
	expectReadIn(t, packages(), "b", "(x . user::nil)", list(user("x")))
}

func TestUnknownPackages(t *testing.T) {
	for _, current := range []string{"", "c", "A", "lisp ", many("c", 100)} {
		expectReadErrorIn(t, packages(), current, "x", api.ErrPackage, 0)
		expectReadErrorIn(t, packages(), current, "(1 'nil", api.ErrPackage, 4)
		expectReadErrorIn(t, packages(), current, `user::x "a" (|car|`, api.ErrPackage, 13)
		// the current package is of no use to an object without symbols of it
		expectReadIn(t, packages(), current, `(1 . "a") user::car () 'b::y`, cons(ratio("1", "1"), text("a")), lisp("car"), lisp("nil"), quote(atom("b", "y")))
		expectReadIn(t, packages(), current, "")
	}
	expectReadError(t, "c::x", api.ErrPackage, 0)
	expectReadError(t, "c::x)", api.ErrPackage, 0)
	expectReadError(t, "x 'c::|x| )", api.ErrPackage, 3)
	expectReadError(t, "(a . c::x", api.ErrPackage, 5)
	expectReadErrorIn(t, nil, "lisp", "lisp::nil", api.ErrPackage, 0)
	expectReadErrorIn(t, nil, "lisp", "nil", api.ErrPackage, 0)
}

func TestIncomplete(t *testing.T) {
	for _, s := range []string{"(", "((", "(a", "(a ", "(a;)", "(a #||#", "'", "''", "'(", "(a '", "(a .", "(a . ", "(a . b", "(a . b ;)", "(a . (b)", "(a . '", "(a . 'b", "a (", "(a) '", "(()", "(a . b::c", many("(", api.MaxDepth+1), many("'", api.MaxDepth+1)} {
		expectReadError(t, s, api.ErrEnd, len(s))
	}
}

func TestMisplaced(t *testing.T) {
	for _, c := range []struct {
		s   string
		pos int
	}{
		{")", 0}, {".", 0}, {" )", 1}, {"a )", 2}, {"a .", 2}, {"()) (", 2}, {"(a)) b", 3}, {"(a) . (b)", 4}, {"a . b", 2},
		{"(.", 1}, {"(. a)", 1}, {"( . )", 2}, {"(a .)", 4}, {"(a . . b)", 5}, {"(a . b . c)", 7}, {"(a . b c)", 7}, {"(a . b 1)", 7}, {"(a . b () )", 7}, {"(a . b 'c)", 7}, {`(a . b "c")`, 7}, {"(a . b c::d", 7}, {"(a . 'b c)", 8}, {"(a . (b) (c))", 9},
		{"')", 1}, {"'.", 1}, {"(')", 2}, {"('. a)", 2}, {"(a '. b)", 4}, {"(a . ')", 6}, {"(a . '.", 6}, {"'')", 2}, {"(a . b" + many("(", 500), 6},
	} {
		expectReadError(t, c.s, api.ErrSyntax, c.pos)
	}
}

func TestDepth(t *testing.T) {
	const most = api.MaxDepth + 1
	o, q := nest(lisp("nil"), most-1), user("x")
	for range most {
		q = quote(q)
	}
	expectRead(t, many("(", most)+many(")", most), o)
	expectRead(t, many("'", most)+"x", q)
	expectRead(t, many("(", most)+many(")", most)+many("'", most)+"x", o, q)
	expectRead(t, "1 "+many("(", most)+many(")", most), ratio("1", "1"), o)
	mixed := user("x")
	for range api.MaxDepth / 2 {
		mixed = list(quote(mixed))
	}
	expectRead(t, many("('", api.MaxDepth/2)+"x"+many(")", api.MaxDepth/2), mixed)
	expectRead(t, "'"+many("('", api.MaxDepth/2)+"x"+many(")", api.MaxDepth/2), quote(mixed))
	expectReadError(t, "'"+many("('", api.MaxDepth/2)+"'x"+many(")", api.MaxDepth/2), api.ErrLimit, most)
	// the elements after a dot are nested, too
	dotted := lisp("nil")
	for range most - 1 {
		dotted = cons(user("a"), dotted)
	}
	expectRead(t, many("(a . ", most-1)+"()"+many(")", most-1), dotted)
	expectReadError(t, many("(a . ", most)+"()"+many(")", most), api.ErrLimit, 5*most)
	expectReadError(t, many("(a . ", most)+"'b"+many(")", most), api.ErrLimit, 5*most)
	for _, before := range []string{many("(", most), many("'", most), "a " + many("'(", most/2) + "() '", many("'(", most/2) + "() 'b ("} {
		for _, s := range []string{"(", "'", "()", "'x", "')", "(.", "(c::x"} {
			expectReadError(t, before+s, api.ErrLimit, len(before))
		}
	}
	// what is complete does not count
	expectRead(t, many("(", most)+"a"+many(")", most-1)+"'b"+many("(", most-1)+many(")", most-1)+")", list(nest(user("a"), most-1), quote(user("b")), nest(lisp("nil"), most-2)))
	expectReadError(t, many("(", api.MaxSource), api.ErrLimit, most)
}

func TestNodes(t *testing.T) {
	// a list of n numbers has 2n + 1 nodes
	const most = (api.MaxNodes - 1) / 2
	expectRead(t, "("+many("1 ", most)+")", numbers(most, lisp("nil")))
	expectRead(t, "("+many("1 ", most)+". 2) a", numbers(most, ratio("2", "1")), user("a"))
	expectRead(t, "("+many("1 ", most)+")("+many("1 ", most-3)+")", numbers(most, lisp("nil")), numbers(most-3, lisp("nil")))
	expectRead(t, "'("+many("1 ", most-2)+")", quote(numbers(most-2, lisp("nil"))))
	var quotes []api.Object
	for range 499 {
		quotes = append(quotes, quote(ratio("1", "1")))
	}
	expectRead(t, "("+many("'1", 499)+")", list(quotes...))
	proper := []string{"(" + many("1 ", most+1) + ")", "'(" + many("1 ", most-1) + ")", "(" + many("()", most/2+1) + " (" + many("()", most/2+1) + "))", "(" + many("'1", 500) + ")", "(" + many("()", most+1) + ")"}
	for _, s := range append(proper, "("+many("1 ", most+1)+". a)") {
		expectReadError(t, s, api.ErrLimit, 0)
		expectReadError(t, "() "+s, api.ErrLimit, 3)
		expectReadError(t, ";c\n a "+s+"#||#", api.ErrLimit, 6)
		// the object is complete before what is wrong after it
		expectReadError(t, s+")", api.ErrLimit, 0)
		expectReadError(t, s+" c::x", api.ErrLimit, 0)
		expectReadError(t, s+" (", api.ErrLimit, 0)
		expectReadError(t, s+".", api.ErrLimit, 0)
		expectReadError(t, s+" ||", api.ErrName, len(s)+1)
	}
	for _, s := range proper {
		// what is wrong in the object comes before it is complete
		s = s[:len(s)-1]
		expectReadError(t, s, api.ErrEnd, len(s))
		expectReadError(t, s+" c::x)", api.ErrPackage, len(s)+1)
		expectReadError(t, s+" '.", api.ErrSyntax, len(s)+2)
	}
}

func TestForms(t *testing.T) {
	most := many("'a ", api.MaxForms)
	var want []api.Object
	for range api.MaxForms {
		want = append(want, quote(user("a")))
	}
	expectRead(t, most, want...)
	expectRead(t, most+"; a\n#|a|#", want...)
	expectRead(t, "(1) "+most[3:], append([]api.Object{list(ratio("1", "1"))}, want[1:]...)...)
	for _, s := range []string{"a", "1", `"s"`, "()", "'a", "(", "'", "c::x", "a )", "a c::x", "(" + many("1 ", api.MaxNodes/2) + ")", many("(", 500), "')", "(. a)"} {
		expectReadError(t, most+s, api.ErrLimit, len(most))
	}
	for _, s := range []string{")", ".", ". a", ") a"} {
		expectReadError(t, most+s, api.ErrSyntax, len(most))
	}
	expectReadError(t, most[1:]+"a", api.ErrLimit, len(most)-1)
	expectReadError(t, most+"a ||", api.ErrName, len(most)+2)
	expectReadError(t, "c::x "+most, api.ErrPackage, 0)
	// what is nested is not counted
	expectRead(t, "("+many("1 ", api.MaxForms+1)+")", numbers(api.MaxForms+1, lisp("nil")))
}

func TestOne(t *testing.T) {
	for _, s := range []string{"", " ", ";a", "#|a|#  "} {
		expectOneErrorIn(t, packages(), "user", s, api.ErrEnd, len(s))
	}
	for _, c := range []struct {
		s   string
		pos int
	}{
		{"a b", 2}, {"(a)(b)", 3}, {"'a 'b", 3}, {"a b c", 2}, {`1"s"`, 1}, {"() #|x|# 'c (d)", 9}, {many("a ", api.MaxForms), 2},
	} {
		expectOneErrorIn(t, packages(), "user", c.s, api.ErrSyntax, c.pos)
	}
	// the errors of Read come first
	expectReadError(t, "a b (", api.ErrEnd, 5)
	expectReadError(t, "a b )", api.ErrSyntax, 4)
	expectReadError(t, "a b c::d", api.ErrPackage, 4)
	expectReadError(t, "a b ||", api.ErrName, 4)
	expectReadError(t, many("a ", api.MaxForms+1), api.ErrLimit, 2*api.MaxForms)
	expectReadError(t, "a "+many("(", api.MaxDepth+2), api.ErrLimit, api.MaxDepth+3)
}
