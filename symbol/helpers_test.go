package symbol

import (
	"slices"
	"strings"
	"testing"

	"lispprover/api"
)

func sym(pack, name string) api.Symbol {
	return api.Symbol{Package: pack, Name: name}
}

// pack returns the package with this name and these imports.
func pack(name string, imports ...api.Symbol) api.Package {
	return api.Package{Name: name, Imports: imports}
}

// lists returns the package lisp, a package that imports from it, one that imports from both, and one without imports.
func lists() []api.Package {
	return []api.Package{
		pack("lisp"),
		pack("a", sym("lisp", "car"), sym("lisp", "nil")),
		pack("b", sym("lisp", "car"), sym("a", "x"), sym("a", "y z")),
		pack("c-1"),
	}
}

// broken returns lists that do not result from Initial by calls of Define.
func broken() [][]api.Package {
	long := strings.Repeat("n", api.MaxName+1)
	return [][]api.Package{
		nil,
		{},
		{pack("a")},
		{pack("lisp", sym("b", "car"))},
		{pack("lisp"), pack("a", sym("lisp", "car")), pack("a", sym("lisp", "cdr")), pack("lisp", sym("a", "car"))},
		{pack("lisp"), pack("a", sym("lisp", "car"), sym("lisp", "x"), sym("b", "car"))},
		{pack("lisp"), pack("", sym("lisp", "car"), sym("", ""), sym("", "x"))},
		{pack("lisp"), pack("A B"), pack(long, sym(long, long), sym("lisp", long))},
		{pack("a", sym("b", "x")), pack("b", sym("a", "x"), sym("b", "y"))},
		{{}, {}},
	}
}

func isSamePackage(a, b api.Package) bool {
	return a.Name == b.Name && slices.Equal(a.Imports, b.Imports)
}

func isSameList(a, b []api.Package) bool {
	return slices.EqualFunc(a, b, isSamePackage)
}

func expectIntern(t *testing.T, l []api.Package, current, name string, want api.Symbol, wantErr api.Errno) {
	t.Helper()
	if got, err := Intern(l, current, name); got != want || err != wantErr {
		t.Errorf("Intern(%v, %q, %q): %v, %d, want %v, %d", l, current, name, got, err, want, wantErr)
	}
}

// define returns l with p added, and fails the test if Define does not.
func define(t *testing.T, l []api.Package, p api.Package) []api.Package {
	t.Helper()
	longer, err := Define(l, p)
	if err != api.OK || !isSameList(longer, slices.Concat(l, []api.Package{p})) {
		t.Fatalf("Define(%v, %v): %v, %d", l, p, longer, err)
	}
	return longer
}

func expectRefused(t *testing.T, l []api.Package, p api.Package, want api.Errno) {
	t.Helper()
	if longer, err := Define(l, p); err != want || len(longer) != 0 {
		t.Errorf("Define(%v, %v): %v, %d, want %d", l, p, longer, err, want)
	}
}

// many returns n different symbols of a package.
func many(pack string, n int) []api.Symbol {
	var l []api.Symbol
	for i := range n {
		l = append(l, sym(pack, string(rune('a'+i%26))+strings.Repeat("+", i/26)))
	}
	return l
}
