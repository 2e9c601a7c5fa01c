package printer

import (
	"reflect"
	"regexp"
	"strings"
	"testing"

	"lispprover/api"
	"lispprover/object"
	"lispprover/reader"
	"lispprover/symbol"
)

// P6.4, a model of the printer on all short names and on random objects, and the general rules P0.1 and P0.4

type model struct {
	word, number, escape *regexp.Regexp
	packages             []api.Package
	current              string
}

func newModel(current string) model {
	return model{
		word:     regexp.MustCompile(`^[!#-&*-9<-{}~]+$`),
		number:   regexp.MustCompile(`^(-?[0-9]+(/[0-9]+)?|\.)$`),
		packages: packages(),
		current:  current,
	}
}

func (m model) name(s api.Symbol) string {
	prefix := s.Package + "::"
	if found, err := symbol.Intern(m.packages, m.current, s.Name); err == api.OK && found == s {
		prefix = ""
	}
	if m.word.MatchString(s.Name) && (prefix != "" || !m.number.MatchString(s.Name)) {
		return prefix + s.Name
	}
	return prefix + "|" + strings.NewReplacer(`\`, `\\`, "|", `\|`).Replace(s.Name) + "|"
}

// isQuote reports whether o is printed with a quote mark.
func isQuote(o api.Object) bool {
	items, proper := object.Items(o)
	return proper && len(items) == 2 && reflect.DeepEqual(items[0], lisp("quote"))
}

func (m model) print(o api.Object) string {
	switch {
	case o.Kind == api.KindNumber:
		if o.Den != "1" {
			return o.Num + "/" + o.Den
		}
		return o.Num
	case o.Kind == api.KindString:
		return `"` + strings.NewReplacer(`\`, `\\`, `"`, `\"`).Replace(o.Text) + `"`
	case o.Kind == api.KindSymbol:
		return m.name(o.Sym)
	case isQuote(o):
		return "'" + m.print(o.Pair[1].Pair[0])
	}
	return "(" + m.print(o.Pair[0]) + m.rest(o.Pair[1])
}

// rest returns what follows the first elements of a list, if tail is the rest of it.
func (m model) rest(tail api.Object) string {
	if reflect.DeepEqual(tail, lisp("nil")) {
		return ")"
	}
	if tail.Kind != api.KindCons {
		return " . " + m.print(tail) + ")"
	}
	return " " + m.print(tail.Pair[0]) + m.rest(tail.Pair[1])
}

func (m model) lines(o api.Object, width int) []string {
	items, proper := object.Items(o)
	whole := m.print(o)
	if len(whole) <= width || !proper || len(items) < 2 || isQuote(o) {
		return []string{whole}
	}
	var lines []string
	for _, item := range items {
		lines = append(lines, m.lines(item, width-1)...)
	}
	for i := range lines {
		lines[i] = " " + lines[i]
	}
	lines[0] = "(" + lines[0][1:]
	lines[len(lines)-1] += ")"
	return lines
}

// expectReads expects that the reader returns o for this text.
func expectReads(t *testing.T, l []api.Package, current, s string, o api.Object) {
	t.Helper()
	if len(s) > api.MaxSource {
		return
	}
	if got, bad := reader.One(l, current, s); !reflect.DeepEqual(got, o) || bad.Err != api.OK {
		t.Errorf("One(%q) in %s: %+v, %v", s, current, got, bad)
	}
}

// expectModel compares Print, and Lines with these widths, with the model, and reads the texts.
func expectModel(t *testing.T, m model, o api.Object, widths ...int) {
	t.Helper()
	want := m.print(o)
	expectPrintIn(t, m.packages, m.current, o, want)
	expectReads(t, m.packages, m.current, want, o)
	for _, width := range widths {
		lines := m.lines(o, width)
		expectLines(t, m.packages, m.current, o, width, lines...)
		if !strings.Contains(want, "\n") {
			expectReads(t, m.packages, m.current, strings.Join(lines, "\n"), o)
		}
	}
}

func TestShortNames(t *testing.T) {
	m := newModel("user")
	expect := func(s string) {
		for _, pack := range []string{"user", "b"} {
			found, _ := symbol.Intern(m.packages, pack, s)
			o := atom(found.Package, found.Name)
			expectName(t, m.packages, "user", found, m.name(found))
			expectModel(t, m, list(o, cons(o, o)), 0)
		}
	}
	for c := range 256 {
		for _, s := range []string{"", "a", "1", "|", "\\", "#", "\xc3"} {
			expect(s + string([]byte{byte(c)}))
			expect(string([]byte{byte(c)}) + s + "b")
		}
	}
	const bytes = "-/01.a# :|\\"
	for n := 1; n < 5; n++ {
		count := 1
		for range n {
			count *= len(bytes)
		}
		for k := range count {
			s := make([]byte, n)
			for i := range s {
				s[i] = bytes[k%len(bytes)]
				k /= len(bytes)
			}
			expect(string(s))
		}
	}
}

func atoms() []api.Object {
	return []api.Object{
		lisp("nil"), lisp("t"), lisp("quote"), lisp("quote"), lisp("car"), lisp("cdr"), lisp("12"), lisp("."), lisp("x y"),
		user("a"), user("x"), user("."), user("1/2"), user("-7"), user("#"), user("|"), user(`\"`), user("b::y"), user(";"), user("é"), user("\xff"), user("\n"), user("quote-me"),
		atom("b", "y"), atom("b", "nil"), atom("b", "quote"), atom("b", "1"), atom("b", "."), atom("b", "#|"), atom("c", "z"),
		whole("0"), whole("-1"), ratio("22", "7"), whole(many("8", api.MaxDigits)),
		text(""), text(`\"|'`), text("a b"), text("; )"), text("\xc3\""), text("a\nb"), text("#|"),
	}
}

// object returns a random object.
func (g *generator) object(depth int) api.Object {
	all := atoms()
	kind := g.next(8)
	if depth == 0 || kind < 2 {
		return all[g.next(len(all))]
	}
	if kind == 2 {
		return quote(g.object(depth - 1))
	}
	var items []api.Object
	for range g.next(5) {
		items = append(items, g.object(depth-1))
	}
	if len(items) > 0 && kind == 3 {
		return dotted(g.object(depth-1), items...)
	}
	return list(items...)
}

func TestRandomObjects(t *testing.T) {
	g := generator(1)
	for _, current := range []string{"lisp", "user", "b", "c"} {
		m := newModel(current)
		for range 1500 {
			o := g.object(5)
			if object.Valid(o) {
				expectModel(t, m, o, 0, 1+g.next(10), g.next(40), g.next(40), g.next(200))
			}
		}
	}
}

// grow returns what n calls of more make of o.
func grow(o api.Object, n int, more func(api.Object) api.Object) api.Object {
	for range n {
		o = more(o)
	}
	return o
}

// TestLargeObjects has objects of about MaxNodes nodes that are nested as deeply as possible.
func TestLargeObjects(t *testing.T) {
	one, two, half, quarter := whole("1"), whole("2"), (api.MaxNodes-1)/2, (api.MaxNodes-1)/4
	lists := grow(one, half, func(o api.Object) api.Object { return list(o) })
	cars := grow(one, half, func(o api.Object) api.Object { return cons(o, two) })
	dots := grow(one, half, func(o api.Object) api.Object { return cons(two, o) })
	quotes := grow(one, quarter, quote)
	for _, width := range []int{0, 1000, 100000} {
		expectLines(t, packages(), "user", lists, width, many("(", half)+"1"+many(")", half))
		expectLines(t, packages(), "user", cars, width, many("(", half)+"1"+many(" . 2)", half))
		expectLines(t, packages(), "user", dots, width, "("+many("2 ", half)+". 1)")
		expectLines(t, packages(), "user", quotes, width, many("'", quarter)+"1")
	}
	expectPrint(t, lists, many("(", half)+"1"+many(")", half))
	for _, o := range []api.Object{list(lists), cons(cars, two), cons(two, dots), quote(quotes)} {
		if n := object.Nodes(o); n != api.MaxNodes+1 {
			t.Errorf("%d nodes", n)
		}
		expectPrintError(t, packages(), "user", o, api.ErrForm)
	}
}

// TestManyLines has large objects with many long lines.
func TestManyLines(t *testing.T) {
	s, end, n := text(many(`"`, api.MaxText)), user(many("|", api.MaxName)), (api.MaxNodes-1)/4
	long, last := `"`+many(`\"`, api.MaxText)+`"`, "|"+many(`\|`, api.MaxName)+"|"
	right := grow(end, n, func(o api.Object) api.Object { return list(s, o) })
	left := grow(end, n, func(o api.Object) api.Object { return list(o, s) })
	expectPrint(t, right, many("("+long+" ", n)+last+many(")", n))
	expectPrint(t, left, many("(", n)+last+many(" "+long+")", n))
	rightLines, leftLines := []string{"(" + long}, []string{many("(", n) + last}
	for i := range n - 1 {
		rightLines = append(rightLines, many(" ", i+1)+"("+long)
		leftLines = append(leftLines, many(" ", n-i)+long+")")
	}
	expectLines(t, packages(), "user", right, 200, append(rightLines, many(" ", n)+last+many(")", n))...)
	expectLines(t, packages(), "user", left, 200, append(leftLines, " "+long+")")...)
}

// TestNestedForReading has objects that the reader just accepts, and objects that are nested too deeply for it.
func TestNestedForReading(t *testing.T) {
	m := newModel("user")
	o, q := nest(user("a"), api.MaxDepth+1), user("a")
	for range api.MaxDepth + 1 {
		q = quote(q)
	}
	expectModel(t, m, o, 0, 100, 300)
	expectModel(t, m, q, 0, 100, 300)
	for _, o := range []api.Object{list(o), quote(o), quote(q), list(q)} {
		s, err := Print(m.packages, "user", o)
		if _, bad := reader.One(m.packages, "user", s); s != m.print(o) || err != api.OK || bad.Err != api.ErrLimit {
			t.Errorf("Print: %q, %d; it is read with %v", s, err, bad)
		}
	}
}

// TestStrangePackages: lists of packages that are not valid are used as they are.
func TestStrangePackages(t *testing.T) {
	l := []api.Package{{Name: "A B", Imports: []api.Symbol{sym("a", "x"), {}}}, {Name: ""}, {Name: "a", Imports: []api.Symbol{sym("b", "y"), sym("a", "y")}}, {Name: "a", Imports: []api.Symbol{sym("b", "z")}}, {Name: "b", Imports: []api.Symbol{sym("a", "w")}}}
	expectName(t, l, "A B", sym("a", "x"), "x")
	expectName(t, l, "", sym("a", "x"), "a::x")
	expectName(t, l, "a", sym("a", "z"), "z")
	expectName(t, l, "a", sym("b", "z"), "b::z")
	expectName(t, l, "a", sym("b", "y"), "y")
	expectNameError(t, l, "a", sym("a", "y"), api.ErrPackage)
	expectNameError(t, l, "b", sym("b", "w"), api.ErrPackage)
	expectNameError(t, l, "A B", sym("A B", "x"), api.ErrForm)
	expectNameError(t, l, "A B", api.Symbol{}, api.ErrForm)
}

func TestArgumentsAreKept(t *testing.T) {
	imports := []api.Symbol{sym("lisp", "car"), sym("lisp", "spare")}
	all := func() ([]api.Package, []api.Object) {
		l := []api.Package{{Name: "lisp"}, {Name: "user", Imports: imports[:1]}, {Name: "spare"}}
		return l, append(brokenObjects()[:20], list(user("x"), quote(text(`"`)), cons(lisp("car"), lisp("cdr"))), user("|"))
	}
	l, objects := all()
	again, objectsAgain := all()
	for _, o := range objects {
		Print(l[:2], "user", o)
		Print(l[:1], "user", o)
		Name(l[:2], "user", o.Sym)
		for width := range 20 {
			Lines(l[:2], "user", o, width)
		}
	}
	if !reflect.DeepEqual(l, again) || !reflect.DeepEqual(objects, objectsAgain) || imports[1] != sym("lisp", "spare") {
		t.Error("an argument was changed")
	}
}

// TestResultsAreNew: a change of the lines does not show in a later result.
func TestResultsAreNew(t *testing.T) {
	o := list(user("a"), user("b"))
	lines, _ := Lines(packages(), "user", o, 0)
	lines[0] = "changed"
	expectLines(t, packages(), "user", o, 0, "(a", " b)")
}
