package primitive

import (
	"slices"
	"testing"

	"lispprover/api"
)

// P7.2: Guard

// expectGuards expects that the guard of a function of one argument holds just for some of the samples.
func expectGuards(t *testing.T, name string, holds func(o api.Object) bool) {
	t.Helper()
	for _, o := range samples() {
		expectGuard(t, name, holds(o), o)
	}
}

// expectBoth expects that the guard of a function of two arguments holds if both are of this kind.
func expectBoth(t *testing.T, name string, kind int) {
	t.Helper()
	for _, a := range samples() {
		for _, b := range samples() {
			expectGuard(t, name, a.Kind == kind && b.Kind == kind, a, b)
		}
	}
}

func TestNoGuards(t *testing.T) {
	for _, a := range samples() {
		for _, name := range []string{"consp", "symbolp", "stringp", "rationalp", "integerp"} {
			expectGuard(t, name, true, a)
		}
		for _, b := range samples() {
			expectGuard(t, "equal", true, a, b)
			expectGuard(t, "cons", true, a, b)
			expectGuard(t, "if", true, a, b, a)
		}
	}
	// the guard does not say that the value is within the limits
	expectGuard(t, "cons", true, chain(1499), chain(1499))
	expectGuard(t, "binary-+", true, whole(nines()), whole("1"))
	expectGuard(t, "string-append", true, str(many("a", 200)), str("b"))
}

func TestGuardsOfOneArgument(t *testing.T) {
	isNil := func(o api.Object) bool {
		return o.Kind == api.KindSymbol && o.Sym.Package == "lisp" && o.Sym.Name == "nil"
	}
	for _, name := range []string{"car", "cdr"} {
		expectGuards(t, name, func(o api.Object) bool { return o.Kind == api.KindCons || isNil(o) })
	}
	for _, name := range []string{"unary--", "numerator", "denominator", "floor"} {
		expectGuards(t, name, func(o api.Object) bool { return o.Kind == api.KindNumber })
	}
	expectGuards(t, "unary-/", func(o api.Object) bool { return o.Kind == api.KindNumber && o.Num != "0" })
	for _, name := range []string{"symbol-name", "symbol-package-name"} {
		expectGuards(t, name, func(o api.Object) bool { return o.Kind == api.KindSymbol })
	}
	expectGuards(t, "string-length", func(o api.Object) bool { return o.Kind == api.KindString })
	expectGuards(t, "byte-string", func(o api.Object) bool { return asByte(o) != "" })
}

func TestGuardsOfTwoArguments(t *testing.T) {
	for _, name := range []string{"binary-+", "binary-*", "<"} {
		expectBoth(t, name, api.KindNumber)
	}
	for _, name := range []string{"intern", "string-append"} {
		expectBoth(t, name, api.KindString)
	}
	for _, a := range samples() {
		for _, b := range samples() {
			expectGuard(t, "string-byte", index(a, b) >= 0, a, b)
		}
	}
}

func TestGuardsByHand(t *testing.T) {
	expectGuard(t, "car", true, null())
	expectGuard(t, "cdr", true, list(whole("1")))
	expectGuard(t, "cdr", false, truth())
	expectGuard(t, "car", false, atom("user", "nil"))
	expectGuard(t, "binary-+", false, whole("1"), null())
	expectGuard(t, "binary-*", false, str("1"), whole("1"))
	expectGuard(t, "<", true, ratio("1", "2"), whole("1"))
	expectGuard(t, "unary-/", false, whole("0"))
	expectGuard(t, "unary-/", true, ratio("-1", "2"))
	expectGuard(t, "unary-/", false, null())
	expectGuard(t, "intern", true, str(""), str("No Package"))
	expectGuard(t, "intern", false, str("a"), truth())
	expectGuard(t, "string-byte", true, str("ab"), whole("1"))
	expectGuard(t, "string-byte", false, str("ab"), whole("2"))
	expectGuard(t, "string-byte", false, str("ab"), whole("-1"))
	expectGuard(t, "string-byte", false, str("ab"), ratio("1", "2"))
	expectGuard(t, "string-byte", false, str("ab"), str("1"))
	expectGuard(t, "string-byte", false, str(""), whole("0"))
	expectGuard(t, "string-byte", false, null(), whole("0"))
	expectGuard(t, "byte-string", true, whole("0"))
	expectGuard(t, "byte-string", true, whole("255"))
	expectGuard(t, "byte-string", false, whole("256"))
	expectGuard(t, "byte-string", false, whole("-1"))
	expectGuard(t, "byte-string", false, ratio("1", "2"))
	expectGuard(t, "byte-string", false, whole("18446744073709551617"))
}

func TestGuardOfOtherCalls(t *testing.T) {
	good := map[string]api.Object{"car": null(), "cdr": null(), "symbol-name": null(), "symbol-package-name": null(), "intern": str("a"), "string-append": str("a"), "string-length": str("a")}
	for _, r := range rows() {
		o, special := good[r.name]
		if !special {
			o = whole("1")
		}
		if r.name != "string-byte" {
			expectGuard(t, r.name, true, slices.Repeat([]api.Object{o}, r.arity)...)
		}
		for n := range 10 {
			if n != r.arity {
				expectGuard(t, r.name, false, slices.Repeat([]api.Object{o}, n)...)
				expectGuard(t, r.name, false, slices.Repeat([]api.Object{str("a")}, n)...)
			}
		}
	}
	expectGuard(t, "string-byte", false, str("a"), whole("0"), whole("0"))
	for _, f := range strangers() {
		for n := range 5 {
			if Guard(f, slices.Repeat([]api.Object{whole("1")}, n)...) {
				t.Errorf("Guard(%v) of %d arguments", f, n)
			}
		}
	}
}
