package symbol

import (
	"fmt"
	"reflect"
	"slices"
	"strings"
	"testing"

	"lispprover/api"
)

// P4.4, lists that are not valid, and the general rules P0.1 and P0.4

type generator uint64

// next returns a number from 0 to n - 1.
func (g *generator) next(n int) int {
	*g = *g*6364136223846793005 + 1442695040888963407
	return int(uint64(*g) >> 33 % uint64(n))
}

// model is what names denote: it has a map from names for each package.
type model map[string]map[string]api.Symbol

func (m model) intern(current, name string) api.Symbol {
	if s, ok := m[current][name]; ok {
		return s
	}
	return sym(current, name)
}

// check returns the error of importing these symbols.
func (m model) check(imports []api.Symbol) api.Errno {
	names := map[string]bool{}
	for _, s := range imports {
		if s.Name == "" {
			return api.ErrName
		}
		if m[s.Package] == nil || m.intern(s.Package, s.Name) != s {
			return api.ErrPackage
		}
		if names[s.Name] {
			return api.ErrDuplicate
		}
		names[s.Name] = true
	}
	return api.OK
}

func (m model) define(p api.Package) {
	m[p.Name] = map[string]api.Symbol{}
	for _, s := range p.Imports {
		m[p.Name][s.Name] = s
	}
}

func someNames() []string {
	return []string{"u", "v", "w", "x", "y", "z", "car", "cdr"}
}

// expectModel compares what Intern, Home and Visible say of l with the model.
func expectModel(t *testing.T, l []api.Package, m model) {
	t.Helper()
	for _, p := range l {
		for _, name := range someNames() {
			s := m.intern(p.Name, name)
			expectIntern(t, l, p.Name, name, s, api.OK)
			if !Home(l, s) {
				t.Errorf("Intern returned %v, which is not Home", s)
			}
			for _, q := range l {
				other := sym(q.Name, name)
				if Visible(l, p.Name, other) != (s == other) || Home(l, other) != (m.intern(q.Name, name) == other) {
					t.Errorf("Home or Visible of %v in %s", other, p.Name)
				}
			}
		}
	}
}

// some returns random imports; many of them cannot be imported.
func (g *generator) some(packages int) []api.Symbol {
	var imports []api.Symbol
	for range g.next(6) {
		s := sym("lisp", someNames()[g.next(len(someNames()))])
		if k := g.next(packages + 1); k > 0 {
			s.Package = fmt.Sprint("p", k)
		}
		if g.next(20) == 0 {
			s.Name = ""
		}
		imports = append(imports, s)
	}
	return imports
}

func TestManyLists(t *testing.T) {
	g, errors := generator(1), map[api.Errno]int{}
	for range 150 {
		l, m := Initial(), model{"lisp": {}}
		for range 25 {
			p := pack(fmt.Sprint("p", len(l)), g.some(len(l))...)
			want := m.check(p.Imports)
			errors[want]++
			if want != api.OK {
				expectRefused(t, l, p, want)
				continue
			}
			l = define(t, l, p)
			m.define(p)
		}
		expectModel(t, l, m)
	}
	for _, err := range []api.Errno{api.OK, api.ErrName, api.ErrPackage, api.ErrDuplicate} {
		if errors[err] < 50 {
			t.Errorf("error %d came only %d times", err, errors[err])
		}
	}
}

// TestDefineKeepsTheRest: Define does not change what Intern returns for the packages that existed before.
func TestDefineKeepsTheRest(t *testing.T) {
	l := lists()
	longer := define(t, define(t, l, pack("d", sym("a", "x"), sym("c-1", "car"))), pack("e", sym("d", "nil"), sym("a", "x")))
	for _, p := range l {
		for _, name := range []string{"car", "nil", "x", "y z", "e", "d", "t"} {
			s, err := Intern(l, p.Name, name)
			expectIntern(t, longer, p.Name, name, s, err)
		}
	}
}

// TestDefineTwice: two lists that grow out of one do not get in each other's way.
func TestDefineTwice(t *testing.T) {
	l := define(t, Initial(), pack("a"))
	b := define(t, l, pack("b", sym("lisp", "x")))
	c := define(t, l, pack("c", sym("lisp", "y")))
	if !isSameList(l, []api.Package{pack("lisp"), pack("a")}) || !isSameList(b, append(slices.Clone(l), pack("b", sym("lisp", "x")))) || !isSameList(c, append(slices.Clone(l), pack("c", sym("lisp", "y")))) {
		t.Errorf("%v, %v", b, c)
	}
}

func TestFirstPackageCounts(t *testing.T) {
	l := broken()[4]
	if p, ok := Find(l, "a"); !ok || !isSamePackage(p, pack("a", sym("lisp", "car"))) {
		t.Errorf("Find: %v", p)
	}
	expectIntern(t, l, "a", "car", sym("lisp", "car"), api.OK)
	expectIntern(t, l, "a", "cdr", sym("a", "cdr"), api.OK)
	expectIntern(t, l, "lisp", "car", sym("lisp", "car"), api.OK)
	if !Home(l, sym("lisp", "car")) || !Home(l, sym("a", "cdr")) || Home(l, sym("a", "car")) || !Visible(l, "a", sym("a", "cdr")) {
		t.Error("Home or Visible")
	}
	define(t, l, pack("b", sym("a", "cdr"), sym("lisp", "car")))
	expectRefused(t, l, pack("b", sym("a", "car")), api.ErrPackage)
	expectRefused(t, l, pack("a"), api.ErrDuplicate)
}

func TestBrokenLists(t *testing.T) {
	// an empty list has no packages, and lisp is a package like any other
	for _, l := range [][]api.Package{nil, {}, {pack("a")}} {
		expectIntern(t, l, "lisp", "car", api.Symbol{}, api.ErrPackage)
		expectRefused(t, l, pack("b", sym("lisp", "car")), api.ErrPackage)
		define(t, l, pack("lisp"))
		define(t, l, pack("b"))
	}
	// of two imports with one name, the first counts
	l := broken()[5]
	expectIntern(t, l, "a", "car", sym("lisp", "car"), api.OK)
	if Visible(l, "a", sym("b", "car")) {
		t.Error("the second import is visible")
	}
	// an import that is not Home is denoted all the same
	l = broken()[8]
	expectIntern(t, l, "a", "x", sym("b", "x"), api.OK)
	expectIntern(t, l, "b", "x", sym("a", "x"), api.OK)
	if Home(l, sym("a", "x")) || Home(l, sym("b", "x")) || !Visible(l, "a", sym("b", "x")) || !Home(l, sym("b", "y")) {
		t.Error("Home or Visible of imports in a circle")
	}
	// the name of a symbol is checked before the imports are searched, and packages may have any names
	l = broken()[6]
	expectIntern(t, l, "", "", api.Symbol{}, api.ErrName)
	expectIntern(t, l, "", "car", sym("lisp", "car"), api.OK)
	expectIntern(t, l, "", "y", sym("", "y"), api.OK)
	if Home(l, api.Symbol{}) || Visible(l, "", api.Symbol{}) || !Home(l, sym("", "x")) || !Visible(l, "", sym("lisp", "car")) {
		t.Error("Home or Visible in a package without a name")
	}
	expectRefused(t, l, pack("d", sym("", "x")), api.ErrName)
	expectRefused(t, l, pack(""), api.ErrName)
	long := strings.Repeat("n", api.MaxName+1)
	expectIntern(t, broken()[7], long, long, api.Symbol{}, api.ErrName)
	expectIntern(t, broken()[7], long, "x", sym(long, "x"), api.OK)
	expectIntern(t, broken()[7], "A B", "x", sym("A B", "x"), api.OK)
	// an invalid import in the list does not matter to a package without imports
	for _, l := range broken() {
		define(t, l, pack("new"))
	}
}

func TestLongLists(t *testing.T) {
	l := Initial()
	for i := range 20000 {
		l = append(l, pack(fmt.Sprint("p", i), sym("lisp", "car")))
	}
	define(t, l, pack("new", many("p19999", 100)...))
	expectIntern(t, l, "p19999", "car", sym("lisp", "car"), api.OK)
	expectIntern(t, l, "p20000", "car", api.Symbol{}, api.ErrPackage)
}

// useAll calls every function with this list.
func useAll(l []api.Package, p api.Package, current string, s api.Symbol) {
	ValidPackage(current)
	Valid(s)
	Define(l, p)
	Find(l, current)
	Intern(l, current, s.Name)
	Home(l, s)
	Visible(l, current, s)
}

func TestArgumentsAreKept(t *testing.T) {
	all := func() [][]api.Package {
		return append(broken(), lists())
	}
	l, again := all(), all()
	for i := range l {
		for _, packages := range all() {
			for _, p := range packages {
				useAll(l[i], p, p.Name, api.Symbol{})
				for _, s := range p.Imports {
					useAll(l[i], p, p.Name, s)
					useAll(l[i], pack("new", s), s.Package, s)
				}
			}
		}
	}
	if !reflect.DeepEqual(l, again) {
		t.Error("an argument was changed")
	}
}

// TestCapacityIsKept: not even the unused capacity of a slice may be changed.
func TestCapacityIsKept(t *testing.T) {
	spare := append(lists(), pack("spare", sym("lisp", "x")), pack("more"))
	imports := []api.Symbol{sym("lisp", "car"), sym("lisp", "cdr"), sym("lisp", "spare")}
	l, p := spare[:len(lists())], pack("new", imports[:1]...)
	longer := define(t, l, p)
	define(t, l, pack("other", imports[:2]...))
	define(t, longer, pack("newer", imports[1:2]...))
	useAll(l, p, "a", imports[0])
	if !isSameList(spare, append(lists(), pack("spare", sym("lisp", "x")), pack("more"))) || !slices.Equal(imports, []api.Symbol{sym("lisp", "car"), sym("lisp", "cdr"), sym("lisp", "spare")}) {
		t.Error("an argument was changed")
	}
}
