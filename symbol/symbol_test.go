package symbol

import (
	"slices"
	"strings"
	"testing"

	"lispprover/api"
)

// P4.1

// packageNames are names of packages; all others are none.
func packageNames() []string {
	return []string{"a", "z", "lisp", "abc", "a0", "z9", "a-", "a--b", "x-1-y", "a09", strings.Repeat("p", api.MaxName), "a" + strings.Repeat("-", api.MaxName-1)}
}

func otherNames() []string {
	return []string{
		"", "-", "0", "9a", "-a", "A", "Z", "aB", "LISP", "a b", " a", "a ", "a\n", "a\x00", "\x00", "a_b", "a.b", "a:b", "a::b", "a|", "a/", "a`", "a{", "a@", "a[", "a,", "`", "{", "é", "aé", "a\xff", "\xff",
		strings.Repeat("p", api.MaxName+1), strings.Repeat("p", 100000),
	}
}

func TestValidPackage(t *testing.T) {
	for _, name := range packageNames() {
		if !ValidPackage(name) {
			t.Errorf("%q is a package name", name)
		}
	}
	for _, name := range otherNames() {
		if ValidPackage(name) {
			t.Errorf("%q is no package name", name)
		}
	}
}

// TestPackageBytes has every byte as the first one and as a later one.
func TestPackageBytes(t *testing.T) {
	for i := range 256 {
		b := byte(i)
		letter := 'a' <= b && b <= 'z'
		other := '0' <= b && b <= '9' || b == '-'
		if ValidPackage(string([]byte{b})) != letter || ValidPackage(string([]byte{b, 'a'})) != letter || ValidPackage(string([]byte{'a', b})) != (letter || other) || ValidPackage(string([]byte{'a', b, 'a'})) != (letter || other) {
			t.Errorf("the byte %d in the name of a package", i)
		}
	}
}

func TestValid(t *testing.T) {
	names := []string{"a", "car", "A", " ", "\x00", "\xff\xfe", "x y", "::", "|", "é", "1", "-", strings.Repeat("n", api.MaxName), strings.Repeat("\x80", api.MaxName)}
	for _, p := range packageNames() {
		for _, name := range names {
			if !Valid(sym(p, name)) {
				t.Errorf("%q::%q is valid", p, name)
			}
		}
		for _, name := range []string{"", strings.Repeat("n", api.MaxName+1), strings.Repeat("é", api.MaxName/2+1)} {
			if Valid(sym(p, name)) {
				t.Errorf("%q::%q is not valid", p, name)
			}
		}
	}
	for _, p := range otherNames() {
		for _, name := range append(names, "") {
			if Valid(sym(p, name)) {
				t.Errorf("%q::%q is not valid", p, name)
			}
		}
	}
}

func TestInitial(t *testing.T) {
	if !isSameList(Initial(), []api.Package{pack("lisp")}) {
		t.Errorf("Initial: %v", Initial())
	}
	Initial()[0].Name = "changed"
	if Initial()[0].Name != "lisp" {
		t.Error("Initial returns the same memory again")
	}
}

// P4.2

func TestDefine(t *testing.T) {
	l := Initial()
	for _, p := range lists()[1:] {
		l = define(t, l, p)
	}
	if !isSameList(l, lists()) {
		t.Errorf("Define: %v", l)
	}
	for _, name := range []string{"d", "lis", "lispa", "a0", "c", "c-11", strings.Repeat("p", api.MaxName)} {
		define(t, l, pack(name))
	}
	// the name is that of a symbol, and the imports come in any order
	define(t, l, pack("car", sym("c-1", "car"), sym("a", "a"), sym("lisp", "z"), sym("b", "b")))
	// two of the names differ in case, one is as long as possible, and one has strange bytes
	define(t, l, pack("d", sym("c-1", "x"), sym("a", "X"), sym("lisp", strings.Repeat("x", api.MaxName)), sym("b", "\x00\xff ")))
}

func TestDefineErrors(t *testing.T) {
	for _, name := range otherNames() {
		expectRefused(t, lists(), pack(name), api.ErrName)
	}
	for _, p := range lists() {
		expectRefused(t, lists(), pack(p.Name), api.ErrDuplicate)
	}
	long := strings.Repeat("n", api.MaxName+1)
	for _, s := range []api.Symbol{{}, sym("", "x"), sym("lisp", ""), sym("Lisp", "x"), sym("lisp", long), sym(long, "x"), sym("a b", "x"), sym("nowhere", ""), sym("1", "x")} {
		expectRefused(t, lists(), pack("d", s), api.ErrName)
	}
	// the package does not exist, is the one that is added, or imports another symbol with this name
	for _, s := range []api.Symbol{sym("nowhere", "x"), sym("lis", "car"), sym("d", "x"), sym("a", "car"), sym("a", "nil"), sym("b", "car"), sym("b", "x"), sym("b", "y z")} {
		expectRefused(t, lists(), pack("d", s), api.ErrPackage)
	}
	for _, imports := range [][]api.Symbol{
		{sym("lisp", "car"), sym("lisp", "car")}, {sym("lisp", "x"), sym("a", "x")}, {sym("a", "x"), sym("lisp", "x")}, {sym("lisp", "x"), sym("lisp", "y"), sym("c-1", "z"), sym("c-1", "x")}, {sym("lisp", "x"), sym("a", "z"), sym("c-1", "z"), sym("nowhere", "u")},
	} {
		expectRefused(t, lists(), pack("d", imports...), api.ErrDuplicate)
	}
}

// TestDefineErrorOrder: the first error that applies counts, and the imports are checked one after the other.
func TestDefineErrorOrder(t *testing.T) {
	bad, absent, car := sym("lisp", ""), sym("nowhere", "x"), sym("lisp", "car")
	tooMany := many("lisp", api.MaxImports+1)
	doubled := append(slices.Clone(tooMany), tooMany...)
	for _, c := range []struct {
		p    api.Package
		want api.Errno
	}{
		{pack("A", tooMany...), api.ErrName}, {pack("A", bad), api.ErrName}, {pack("A", absent), api.ErrName}, {pack("A", car, car), api.ErrName},
		{pack("a", tooMany...), api.ErrDuplicate}, {pack("a", bad), api.ErrDuplicate}, {pack("a", absent), api.ErrDuplicate}, {pack("a", sym("a", "x")), api.ErrDuplicate},
		{pack("d", tooMany...), api.ErrLimit}, {pack("d", doubled...), api.ErrLimit}, {pack("d", slices.Repeat([]api.Symbol{bad}, api.MaxImports+1)...), api.ErrLimit}, {pack("d", slices.Repeat([]api.Symbol{absent}, api.MaxImports+1)...), api.ErrLimit},
		{pack("d", slices.Repeat([]api.Symbol{car}, api.MaxImports)...), api.ErrDuplicate}, {pack("d", slices.Repeat([]api.Symbol{car}, api.MaxImports+1)...), api.ErrLimit},
		{pack("d", bad, absent), api.ErrName}, {pack("d", absent, bad), api.ErrPackage}, {pack("d", bad, bad), api.ErrName}, {pack("d", absent, absent), api.ErrPackage},
		{pack("d", car, car, bad), api.ErrDuplicate}, {pack("d", car, bad, car), api.ErrName}, {pack("d", car, absent, car), api.ErrPackage}, {pack("d", car, car, absent), api.ErrDuplicate},
		// an import with two faults
		{pack("d", car, sym("nowhere", "car")), api.ErrPackage}, {pack("d", car, sym("a", "car")), api.ErrPackage}, {pack("d", sym("Nowhere", "x")), api.ErrName}, {pack("d", car, sym("Lisp", "car")), api.ErrName},
	} {
		expectRefused(t, lists(), c.p, c.want)
	}
}

func TestMaxImports(t *testing.T) {
	l := define(t, Initial(), pack("a", many("lisp", api.MaxImports)...))
	l = define(t, l, pack("b", many("lisp", api.MaxImports-1)...))
	for _, s := range many("lisp", api.MaxImports) {
		expectIntern(t, l, "a", s.Name, s, api.OK)
	}
	expectRefused(t, l, pack("c", many("lisp", api.MaxImports+1)...), api.ErrLimit)
	expectRefused(t, l, pack("c", many("lisp", 5000)...), api.ErrLimit)
}

func TestFind(t *testing.T) {
	for _, p := range lists() {
		if got, ok := Find(lists(), p.Name); !ok || !isSamePackage(got, p) {
			t.Errorf("Find of %s: %v, %v", p.Name, got, ok)
		}
	}
	for _, name := range append(otherNames(), "d", "lis", "lispa", "c", "c-", "car", "x") {
		if got, ok := Find(lists(), name); ok || !isSamePackage(got, api.Package{}) {
			t.Errorf("Find of %q: %v, %v", name, got, ok)
		}
	}
}

// TestCopies: what the caller does to the imports later does not change the list.
func TestCopies(t *testing.T) {
	imports := []api.Symbol{sym("lisp", "car"), sym("lisp", "cdr"), sym("lisp", "spare")}
	l := define(t, Initial(), pack("a", imports[:2]...))
	imports[0], imports[1], imports[2] = sym("lisp", "x"), sym("b", "y"), api.Symbol{}
	if p, ok := Find(l, "a"); !ok || !isSamePackage(p, pack("a", sym("lisp", "car"), sym("lisp", "cdr"))) {
		t.Errorf("the imports of a have changed: %v", p)
	}
}

// P4.3

func TestIntern(t *testing.T) {
	longest := strings.Repeat("n", api.MaxName)
	for _, c := range []struct {
		current, name, home string
	}{
		{"lisp", "car", "lisp"}, {"lisp", "x", "lisp"}, {"lisp", "NIL", "lisp"}, {"lisp", longest, "lisp"}, {"lisp", "\x00", "lisp"}, {"lisp", "\xff|", "lisp"},
		{"a", "car", "lisp"}, {"a", "nil", "lisp"}, {"a", "t", "a"}, {"a", "Car", "a"}, {"a", "ca", "a"}, {"a", "cars", "a"}, {"a", "x", "a"}, {"a", "a", "a"}, {"a", longest, "a"},
		{"b", "car", "lisp"}, {"b", "nil", "b"}, {"b", "x", "a"}, {"b", "y z", "a"}, {"b", "y", "b"}, {"b", "z", "b"}, {"b", " ", "b"},
		{"c-1", "car", "c-1"}, {"c-1", "nil", "c-1"}, {"c-1", "x", "c-1"}, {"c-1", "lisp::car", "c-1"},
	} {
		expectIntern(t, lists(), c.current, c.name, sym(c.home, c.name), api.OK)
	}
}

func TestInternErrors(t *testing.T) {
	tooLong := strings.Repeat("n", api.MaxName+1)
	for _, current := range append(otherNames(), "d", "lis", "c", "car") {
		for _, name := range []string{"car", "x", "", tooLong} {
			expectIntern(t, lists(), current, name, api.Symbol{}, api.ErrPackage)
		}
	}
	for _, p := range lists() {
		for _, name := range []string{"", tooLong, strings.Repeat("é", api.MaxName/2+1), strings.Repeat("n", 100000)} {
			expectIntern(t, lists(), p.Name, name, api.Symbol{}, api.ErrName)
		}
	}
}

func TestHome(t *testing.T) {
	longest := strings.Repeat("n", api.MaxName)
	for _, s := range []api.Symbol{sym("lisp", "car"), sym("lisp", "new"), sym("a", "x"), sym("a", "y z"), sym("a", "Car"), sym("b", "nil"), sym("b", "y"), sym("c-1", "car"), sym("c-1", longest)} {
		if !Home(lists(), s) {
			t.Errorf("%v is Home", s)
		}
	}
	for _, s := range []api.Symbol{sym("a", "car"), sym("a", "nil"), sym("b", "car"), sym("b", "x"), sym("b", "y z"), sym("d", "x"), sym("", "x"), sym("lisp", ""), sym("lisp", longest+"n"), sym("A", "x"), {}} {
		if Home(lists(), s) {
			t.Errorf("%v is not Home", s)
		}
	}
}

func TestVisible(t *testing.T) {
	longest := strings.Repeat("n", api.MaxName)
	for _, c := range []struct {
		current string
		s       api.Symbol
	}{
		{"lisp", sym("lisp", "car")}, {"lisp", sym("lisp", "x")}, {"a", sym("lisp", "car")}, {"a", sym("lisp", "nil")}, {"a", sym("a", "x")}, {"a", sym("a", "t")},
		{"b", sym("lisp", "car")}, {"b", sym("a", "x")}, {"b", sym("a", "y z")}, {"b", sym("b", "nil")}, {"c-1", sym("c-1", "car")}, {"c-1", sym("c-1", longest)},
	} {
		if !Visible(lists(), c.current, c.s) {
			t.Errorf("%v is visible in %s", c.s, c.current)
		}
	}
	for _, c := range []struct {
		current string
		s       api.Symbol
	}{
		{"lisp", sym("a", "x")}, {"lisp", sym("a", "car")}, {"a", sym("a", "car")}, {"a", sym("lisp", "t")}, {"a", sym("b", "x")}, {"b", sym("b", "car")}, {"b", sym("a", "car")}, {"b", sym("b", "x")}, {"b", sym("lisp", "x")}, {"b", sym("lisp", "nil")}, {"b", sym("a", "z")},
		{"c-1", sym("lisp", "car")}, {"c-1", sym("a", "x")}, {"d", sym("d", "x")}, {"d", sym("lisp", "car")}, {"", sym("", "x")}, {"", sym("lisp", "car")}, {"", api.Symbol{}}, {"lisp", api.Symbol{}}, {"lisp", sym("lisp", "")}, {"lisp", sym("lisp", longest+"n")}, {"a", sym("Lisp", "car")},
	} {
		if Visible(lists(), c.current, c.s) {
			t.Errorf("%v is not visible in %s", c.s, c.current)
		}
	}
}

// TestExample is the example of the chapter.
func TestExample(t *testing.T) {
	l := define(t, Initial(), pack("a", sym("lisp", "car")))
	expectIntern(t, l, "a", "car", sym("lisp", "car"), api.OK)
	if Home(l, sym("a", "car")) {
		t.Error("a::car is Home")
	}
}
