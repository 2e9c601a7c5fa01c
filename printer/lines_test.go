package printer

import (
	"math"
	"testing"

	"lispprover/api"
)

// P6.3

// expectBroken expects these lines in the package user.
func expectBroken(t *testing.T, o api.Object, width int, want ...string) {
	t.Helper()
	expectLines(t, packages(), "user", o, width, want...)
}

func TestLinesOfOneList(t *testing.T) {
	o := list(user("f"), user("aa"), user("bb"))
	expectBroken(t, o, 5, "(f", " aa", " bb)")
	expectBroken(t, o, 8, "(f", " aa", " bb)")
	expectBroken(t, o, 9, "(f aa bb)")
	expectBroken(t, o, 10, "(f aa bb)")
	expectBroken(t, list(user("a"), user("b")), 4, "(a", " b)")
	expectBroken(t, list(user("a"), user("b")), 5, "(a b)")
	// bytes count, not letters
	expectBroken(t, list(text("éé"), whole("1")), 9, `("éé"`, " 1)")
	expectBroken(t, list(text("éé"), whole("1")), 10, `("éé" 1)`)
}

// TestSmallWidths: no text has at most 0 bytes, also where a width is decreased.
func TestSmallWidths(t *testing.T) {
	o := list(list(user("a"), user("b")), list(user("c"), list(user("d"), user("e"))))
	for _, width := range []int{5, 4, 3, 2, 1, 0, -1, -2, -1000, math.MinInt + 2, math.MinInt + 1, math.MinInt} {
		expectBroken(t, o, width, "((a", "  b)", " (c", "  (d", "   e)))")
	}
	for _, width := range []int{17, 18, 1000, math.MaxInt} {
		expectBroken(t, o, width, "((a b) (c (d e)))")
	}
}

// TestNestedLines: each list that is broken takes one from the width, and parentheses after a text do not count.
func TestNestedLines(t *testing.T) {
	o := list(list(user("a"), user("b")), list(user("c"), list(user("d"), user("e"))))
	expectBroken(t, o, 16, "((a b)", " (c (d e)))")
	expectBroken(t, o, 10, "((a b)", " (c (d e)))")
	expectBroken(t, o, 9, "((a b)", " (c", "  (d e)))")
	expectBroken(t, o, 7, "((a b)", " (c", "  (d e)))")
	expectBroken(t, o, 6, "((a b)", " (c", "  (d", "   e)))")
	expectBroken(t, o, 5, "((a", "  b)", " (c", "  (d", "   e)))")
	first := list(list(list(user("a"), user("b")), user("c")), user("d"))
	expectBroken(t, first, 13, "(((a b) c) d)")
	expectBroken(t, first, 12, "(((a b) c)", " d)")
	expectBroken(t, first, 9, "(((a b)", "  c)", " d)")
	expectBroken(t, first, 6, "(((a", "   b)", "  c)", " d)")
	expectBroken(t, nest(whole("2"), 3), 0, "(1", " (1", "  (1", "   2)))")
}

// TestUnbrokenLines: only proper lists of two or more elements are broken.
func TestUnbrokenLines(t *testing.T) {
	a, b := user("aaaa"), user("bbbb")
	for _, width := range []int{-1, 0, 1, 5} {
		expectBroken(t, a, width, "aaaa")
		expectBroken(t, list(), width, "nil")
		expectBroken(t, whole("123456789"), width, "123456789")
		expectBroken(t, text("a b c d"), width, `"a b c d"`)
		expectBroken(t, list(list(a, b)), width, "((aaaa bbbb))")
		expectBroken(t, list(list(list(a, b))), width, "(((aaaa bbbb)))")
		expectBroken(t, cons(a, b), width, "(aaaa . bbbb)")
		expectBroken(t, dotted(a, a, b), width, "(aaaa bbbb . aaaa)")
		expectBroken(t, cons(list(a, b), b), width, "((aaaa bbbb) . bbbb)")
		expectBroken(t, quote(list(a, b)), width, "'(aaaa bbbb)")
		expectBroken(t, quote(a), width, "'aaaa")
		expectBroken(t, quote(quote(list(a, b))), width, "''(aaaa bbbb)")
		// as elements, too
		expectBroken(t, list(list(list(a, b)), cons(a, b), quote(list(a, b)), list()), width, "(((aaaa bbbb))", " (aaaa . bbbb)", " '(aaaa bbbb)", " nil)")
	}
	expectBroken(t, list(lisp("quote"), a, b), 0, "(quote", " aaaa", " bbbb)")
	expectBroken(t, cons(a, quote(b)), 0, "(aaaa", " quote", " bbbb)")
	expectBroken(t, list(user("quote-1"), a), 0, "(quote-1", " aaaa)")
}

// TestLineFeeds: a line feed of a string or a symbol is a byte like any other.
func TestLineFeeds(t *testing.T) {
	o := list(text("a\nb"), user("c\n"))
	expectBroken(t, o, 11, "(\"a\nb\"", " |c\n|)")
	expectBroken(t, o, 12, "(\"a\nb\" |c\n|)")
}

func TestLinesInPackages(t *testing.T) {
	o := list(user("x"), lisp("nil"))
	expectLines(t, packages(), "b", o, 5, "(x", " lisp::nil)")
	expectLines(t, packages(), "user", o, 5, "(x", " nil)")
	expectLines(t, packages(), "lisp", o, 13, "(user::x nil)")
}
