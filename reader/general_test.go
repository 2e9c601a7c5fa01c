package reader

import (
	"reflect"
	"strings"
	"testing"

	"lispprover/api"
	"lispprover/object"
)

// P5.1 and P5.2 on all short texts and on random ones, packages that are not valid, and the general rules P0.1 and P0.4

// TestShortTexts has all texts of up to 5 of the bytes that matter to tokens.
func TestShortTexts(t *testing.T) {
	m, errors := newModel(), map[api.Errno]int{}
	const bytes = "#|;:\"\\\nab"
	for n := range 6 {
		count := 1
		for range n {
			count *= len(bytes)
		}
		for k := range count {
			s := make([]byte, n)
			for i := range s {
				s[i] = bytes[k%len(bytes)]
				k /= len(bytes)
			}
			errors[expectModel(t, m, packages(), "user", string(s)).Err]++
		}
	}
	for _, err := range []api.Errno{api.OK, api.ErrEnd, api.ErrSyntax, api.ErrName, api.ErrPackage} {
		if errors[err] < 30 {
			t.Errorf("error %d came only %d times", err, errors[err])
		}
	}
}

// TestShortWords has all texts of up to 6 of the bytes that matter to numbers.
func TestShortWords(t *testing.T) {
	m := newModel()
	const bytes = "-/012. "
	for n := range 7 {
		count := 1
		for range n {
			count *= len(bytes)
		}
		for k := range count {
			s := make([]byte, n)
			for i := range s {
				s[i] = bytes[k%len(bytes)]
				k /= len(bytes)
			}
			expectModel(t, m, packages(), "user", string(s))
		}
	}
}

// TestShortForms has all texts of up to 6 tokens.
func TestShortForms(t *testing.T) {
	m, errors := newModel(), map[api.Errno]int{}
	tokens := []string{"(", ")", "'", " . ", " a ", " c::d "}
	for n := range 7 {
		count := 1
		for range n {
			count *= len(tokens)
		}
		for k := range count {
			var s strings.Builder
			for range n {
				s.WriteString(tokens[k%len(tokens)])
				k /= len(tokens)
			}
			errors[expectModel(t, m, packages(), "user", s.String()).Err]++
		}
	}
	for _, err := range []api.Errno{api.OK, api.ErrEnd, api.ErrSyntax, api.ErrPackage} {
		if errors[err] < 200 {
			t.Errorf("error %d came only %d times", err, errors[err])
		}
	}
}

// pieces are parts of texts; many texts of them are well-formed.
func pieces() []string {
	return []string{
		"(", "(", "(", "(", ")", ")", ")", ")", ")", "'", "'", " . ", ".", " ", "\n", "\t", ";", "; c\n", "#|", "|#", "#| c |#", "#", "|", "\"", "\\", ":", "::", "/", "-", "0", "1", "12", "a", "b",
		" a ", " b ", " car", " nil", "\"s\"", "\"\\\\\\\"\"", "|b|", "|\\||", " a::b", " lisp::", " user::x ", " b::y", " c::z", " 1/2 ", " -3/6", " 1/0 ", "é", "\x00", "\xff", many("n", 40), many("s", 99), many("7", 50), "\"" + many("s", 200) + "\"",
	}
}

func TestRandomTexts(t *testing.T) {
	m, g, errors := newModel(), generator(1), map[api.Errno]int{}
	all := pieces()
	for range 40000 {
		var s strings.Builder
		for range g.next(14) {
			s.WriteString(all[g.next(len(all))])
		}
		errors[expectModel(t, m, packages(), []string{"user", "lisp", "b", "c"}[g.next(4)], s.String()).Err]++
	}
	for _, err := range []api.Errno{api.OK, api.ErrEnd, api.ErrSyntax, api.ErrName, api.ErrPackage, api.ErrLimit} {
		if errors[err] < 100 {
			t.Errorf("error %d came only %d times", err, errors[err])
		}
	}
}

// TestRandomBytes has long texts in which nothing makes sense.
func TestRandomBytes(t *testing.T) {
	m, g := newModel(), generator(2)
	for range 300 {
		s := make([]byte, g.next(api.MaxSource+50))
		for i := range s {
			s[i] = byte(g.next(256))
		}
		expectModel(t, m, packages(), "user", string(s))
	}
}

// separator returns blanks and comments.
func (g *generator) separator() string {
	all := []string{" ", "\n", "\t\r", " ;( c\n", "#|(|#", "#| #||# ' |#", "\n;\n"}
	s := " "
	for range g.next(3) {
		s += all[g.next(len(all))]
	}
	return s
}

// form returns an object, and a text of it.
func (g *generator) form(depth int) (api.Object, string) {
	switch k := g.next(12); {
	case k < 5 && depth > 0:
		return g.formList(depth)
	case k == 5 && depth > 0:
		o, s := g.form(depth - 1)
		return quote(o), "'" + g.separator() + s
	case k < 7:
		return ratio("-12", "35"), "-024/00070"
	case k < 8:
		return text(`"\ (;`), `"\"\\ (;"`
	case k < 9:
		return user("\\|"), `|\\\||`
	case k < 10:
		return lisp("t"), "user::t"
	}
	return atom("b", "1"), "b::1"
}

// formList returns a list, some of which do not end with nil, and a text of it.
func (g *generator) formList(depth int) (api.Object, string) {
	var items []api.Object
	s := "(" + g.separator()
	for range g.next(5) {
		o, part := g.form(depth - 1)
		items = append(items, o)
		s += part + g.separator()
	}
	tail := lisp("nil")
	if len(items) > 0 && g.next(3) == 0 {
		o, part := g.form(depth - 1)
		tail = o
		s += "." + g.separator() + part + g.separator()
	}
	for i := range items {
		tail = cons(items[len(items)-1-i], tail)
	}
	return tail, s + ")"
}

// TestRandomForms reads texts of random objects, which are valid.
func TestRandomForms(t *testing.T) {
	g := generator(3)
	for range 3000 {
		var want []api.Object
		s := g.separator()
		for range g.next(4) {
			o, part := g.form(4)
			want = append(want, o)
			s += part + g.separator()
		}
		if len(s) > api.MaxSource {
			continue
		}
		expectRead(t, s, want...)
		for _, o := range want {
			if !object.Valid(o) {
				t.Errorf("%q has an object that is not valid", s)
			}
		}
	}
}

// TestStrangePackages: lists of packages that are not valid are used as they are.
func TestStrangePackages(t *testing.T) {
	l := []api.Package{{Name: "", Imports: []api.Symbol{{Package: "A B", Name: "x"}}}, {Name: "a", Imports: []api.Symbol{{}, {Package: "", Name: "y"}, {Package: "a", Name: "y"}}}, {Name: "a", Imports: []api.Symbol{{Package: "lisp", Name: "z"}}}, {Name: "A"}}
	expectReadIn(t, l, "", "x y", atom("A B", "x"), atom("", "y"))
	expectReadIn(t, l, "a", "y z a::y (x)", atom("", "y"), atom("a", "z"), atom("", "y"), list(atom("a", "x")))
	expectReadIn(t, l, "A", "x", atom("A", "x"))
	expectReadErrorIn(t, l, "A", "A::x", api.ErrName, 0)
	expectReadErrorIn(t, l, "a", "lisp::z", api.ErrPackage, 0)
	expectReadErrorIn(t, []api.Package{}, "", "x", api.ErrPackage, 0)
}

// TestLongTexts: a text beyond the limit is not looked at.
func TestLongTexts(t *testing.T) {
	for _, s := range []string{many("(", 1<<22), many("'", 1<<22), many("#|", 1<<21), many("9", 1<<22), many("1 ", 1<<21)} {
		expectTokensError(t, s, api.ErrLimit, 0)
	}
}

func TestArgumentsAreKept(t *testing.T) {
	imports := []api.Symbol{{Package: "lisp", Name: "car"}, {Package: "lisp", Name: "spare"}}
	all := func() []api.Package {
		return []api.Package{{Name: "lisp"}, {Name: "user", Imports: imports[:1]}, {Name: "spare"}}
	}
	l, again := all(), all()
	objects, bad := Read(l[:2], "user", "(car 'x lisp::y spare) (a . b) z")
	if len(objects) != 3 || bad.Err != api.OK {
		t.Errorf("%v, %v", objects, bad)
	}
	Read(l[:2], "user", "(car spare::x")
	One(l[:2], "user", "'(car x)")
	One(l[:2], "user", "")
	if !reflect.DeepEqual(l, again) || imports[1] != (api.Symbol{Package: "lisp", Name: "spare"}) {
		t.Error("an argument was changed")
	}
}

// pairs collects the slices in o.
func pairs(o api.Object, found map[*api.Object]int) {
	if len(o.Pair) > 0 {
		found[&o.Pair[0]]++
	}
	for _, part := range o.Pair {
		pairs(part, found)
	}
}

// TestResultsAreNew: no two parts of a result share memory.
func TestResultsAreNew(t *testing.T) {
	objects, _ := Read(packages(), "user", "('a 'a (b . c) (b . c) () ()) ('a 'a (b . c) (b . c) () ())")
	found := map[*api.Object]int{}
	for _, o := range objects {
		pairs(o, found)
	}
	for _, n := range found {
		if n > 1 {
			t.Fatal("two conses share their memory")
		}
	}
	if len(found) != 24 {
		t.Errorf("%d conses", len(found))
	}
}
