package world

import (
	"reflect"
	"testing"

	"lispprover/api"
	"lispprover/primitive"
)

func TestBaseIsValid(t *testing.T) {
	w := base()
	for n := range len(w) + 1 {
		expectBool(t, "Valid", Valid(w[:n]), true)
	}
	expectBool(t, "Valid of nothing", Valid(nil), true)
	expectBool(t, "Valid of no entries", Valid([]api.Entry{}), true)
}

func TestFind(t *testing.T) {
	w := base()
	for i, name := range syms("id a-package even mac cap pick st th off book here") {
		got, is := Find(w, name)
		expectIndex(t, name.Name, got, is, i)
	}
	for _, name := range syms("odd g h st-get st-put a::id car quote nil x") {
		got, is := Find(w, name)
		expectNone(t, "Find of "+name.Name, got, is)
	}
	got, is := Find(nil, sym("id"))
	expectNone(t, "Find in nothing", got, is)
	got, is = Find([]api.Entry{label("b"), label("c"), theorem("b", "x"), {}}, api.Symbol{})
	expectIndex(t, "the zero symbol", got, is, 3)
	got, is = Find([]api.Entry{label("b"), label("c"), theorem("c", "x")}, sym("c"))
	expectIndex(t, "the first of two", got, is, 1)
}

func TestOwner(t *testing.T) {
	w := base()
	for name, i := range map[string]int{"id": 0, "even": 2, "odd": 2, "g": 4, "h": 4, "pick": 5, "st-get": 6, "st-put": 6} {
		got, is := Owner(w, sym(name))
		expectIndex(t, name, got, is, i)
	}
	for _, name := range syms("mac cap st th here a::id a::g car if quote nil") {
		got, is := Owner(w, name)
		expectNone(t, "Owner of "+name.Name, got, is)
	}
}

// TestOwnerOfKinds: only some kinds of entries have functions.
func TestOwnerOfKinds(t *testing.T) {
	for kind := -1; kind <= 12; kind++ {
		e := api.Entry{Kind: kind, Name: sym("e"), Functions: []api.Function{defined("f x", "x"), defined("g x y", "y")}}
		w := []api.Entry{label("l"), e, functions(defined("g", "'1"))}
		has := kind == api.EntryFunctions || kind == api.EntryEncapsule || kind == api.EntryChoice || kind == api.EntryStobj
		f, is := Owner(w, sym("f"))
		expectBool(t, "a function of the kind", is, has)
		_, is = Function(w, sym("f"))
		expectBool(t, "Function of the kind", is, has)
		_, is = Arity(w, sym("f"))
		expectBool(t, "Arity of the kind", is, has)
		expectBool(t, "Taken by the kind", Taken(w, sym("f")), has)
		g, _ := Owner(w, sym("g"))
		arity, _ := Arity(w, sym("g"))
		if has && (f != 1 || g != 1 || arity != 2) || !has && (f != 0 || g != 2 || arity != 0) {
			t.Errorf("kind %d: %d, %d, %d", kind, f, g, arity)
		}
	}
}

func TestFunction(t *testing.T) {
	w := base()
	for _, want := range []api.Function{w[0].Functions[0], w[2].Functions[0], w[2].Functions[1], w[4].Functions[1], w[5].Functions[0], w[6].Functions[1]} {
		got, is := Function(w, want.Name)
		if !is || !reflect.DeepEqual(got, want) {
			t.Errorf("Function: %+v, %v, want %+v", got, is, want)
		}
	}
	for _, name := range syms("mac cap st th here a::id car quote nil") {
		got, is := Function(w, name)
		expectNone(t, "Function of "+name.Name, got, is)
	}
	w = []api.Entry{functions(defined("g", "'1"), defined("f x", "'2"), defined("f x y", "'3")), defun("f x y z", "'4"), defun("car x y", "'5")}
	got, is := Function(w, sym("f"))
	if !is || !reflect.DeepEqual(got, w[0].Functions[1]) {
		t.Errorf("the first of three: %+v, %v", got, is)
	}
	got, is = Function(w, sym("car"))
	if !is || !reflect.DeepEqual(got, w[2].Functions[0]) {
		t.Errorf("a function that has the name of a primitive: %+v, %v", got, is)
	}
}

func TestMacro(t *testing.T) {
	w := base()
	got, is := Macro(w, sym("mac"))
	if !is || !reflect.DeepEqual(got, w[3].Macro) {
		t.Errorf("Macro: %+v, %v", got, is)
	}
	for _, name := range syms("id cap th here a::mac list car nil") {
		got, is := Macro(w, name)
		expectNone(t, "Macro of "+name.Name, got, is)
	}
	other := macro("n x y", "y")
	other.Name = sym("m")
	notOne := macro("n", "'1")
	notOne.Kind = api.EntryTheorem
	w = []api.Entry{notOne, other, macro("n x", "'2")}
	got, is = Macro(w, sym("n"))
	if !is || !reflect.DeepEqual(got, other.Macro) {
		t.Errorf("the first of two macros: %+v, %v", got, is)
	}
	got, is = Macro(w, sym("m"))
	expectNone(t, "the name of an entry", got, is)
}

func TestArity(t *testing.T) {
	w := base()
	for name, want := range map[string]int{"id": 1, "odd": 1, "g": 1, "h": 2, "pick": 1, "st-put": 2, "if": 3, "cons": 2, "car": 1, "string-byte": 2} {
		got, is := Arity(w, sym(name))
		expectIndex(t, "Arity of "+name, got, is, want)
	}
	for _, name := range syms("mac cap st th here a::id a::car list quote nil t") {
		got, is := Arity(w, name)
		expectNone(t, "Arity of "+name.Name, got, is)
	}
	for _, f := range primitive.Names() {
		want, _ := primitive.Arity(f)
		got, is := Arity([]api.Entry{functions(api.Function{Name: f, Params: syms("x y z u")})}, f)
		expectIndex(t, "Arity of a primitive", got, is, want)
	}
	got, is := Arity([]api.Entry{defun("k", "'1")}, sym("k"))
	expectIndex(t, "no parameters", got, is, 0)
	got, is = Arity([]api.Entry{defun("quote x y", "'1")}, sym("quote"))
	expectIndex(t, "a function that must not be there", got, is, 2)
}

func TestTaken(t *testing.T) {
	w := base()
	for _, name := range append(syms("quote nil t id a-package even odd mac cap g h pick st st-get st-put th off book here"), primitive.Names()...) {
		expectBool(t, "Taken of "+name.Name, Taken(w, name), true)
	}
	for _, name := range syms("x y field a::quote a::nil a::t a::id a::car list let cond a b lisp witness") {
		expectBool(t, "Taken of "+name.Name, Taken(w, name), false)
	}
	expectBool(t, "the zero symbol", Taken(w, api.Symbol{}), false)
	for _, name := range append(syms("quote nil t"), primitive.Names()...) {
		expectBool(t, "Taken in nothing", Taken(nil, name), true)
	}
	m := macro("n x", "x")
	m.Name = sym("m")
	expectBool(t, "the name of the macro", Taken([]api.Entry{m}, sym("n")), true)
	expectBool(t, "the name of its entry", Taken([]api.Entry{m}, sym("m")), true)
	m.Kind = api.EntryLabel
	expectBool(t, "a macro of an entry of another kind", Taken([]api.Entry{m}, sym("n")), false)
}

func TestLocalEntriesAreNotLookedUp(t *testing.T) {
	e := encapsule("cap", []string{"g x"})
	e.Local = []api.Entry{defun("witness x", "x"), macro("n x", "x"), pack("b", ""), label("l")}
	w, name := []api.Entry{e}, sym("witness")
	_, found := Find(w, name)
	_, owned := Owner(w, name)
	_, function := Function(w, name)
	_, arity := Arity(w, name)
	_, is := Macro(w, sym("n"))
	if found || owned || function || arity || is || Taken(w, name) || Taken(w, sym("n")) || Taken(w, sym("l")) || len(Packages(w)) != 1 {
		t.Error("a local entry was found")
	}
	expectErr(t, "Known", Known(w, tm("(witness x)")), api.ErrFunction)
	expectErr(t, "Check", Check(w, label("l")), api.OK)
	expectBool(t, "Executable", Executable(w, name), false)
}

func TestPackages(t *testing.T) {
	lisp := api.Package{Name: "lisp"}
	for _, c := range []struct {
		w    []api.Entry
		want []api.Package
	}{
		{nil, []api.Package{lisp}},
		{[]api.Entry{label("b"), defun("f x", "x")}, []api.Package{lisp}},
		{base(), []api.Package{lisp, {Name: "a", Imports: syms("car")}}},
		{[]api.Entry{pack("b", "car cdr"), label("c"), pack("b", "cons"), pack("lisp", "a::x")}, []api.Package{lisp, {Name: "b", Imports: syms("car cdr")}, {Name: "b", Imports: syms("cons")}, {Name: "lisp", Imports: syms("a::x")}}},
		{[]api.Entry{{Kind: api.EntryPackage}, {Kind: api.EntryBook, Package: api.Package{Name: "c"}}}, []api.Package{lisp, {}}},
	} {
		got := Packages(c.w)
		if len(got) != len(c.want) {
			t.Errorf("Packages: %v, want %v", got, c.want)
			continue
		}
		for i := range got {
			if got[i].Name != c.want[i].Name || !sameList(got[i].Imports, c.want[i].Imports) {
				t.Errorf("Packages: %v, want %v", got, c.want)
			}
		}
	}
}

func TestExtend(t *testing.T) {
	var w []api.Entry
	for i, e := range base() {
		longer, err := Extend(w, e)
		if err != api.OK || !reflect.DeepEqual(longer, base()[:i+1]) {
			t.Fatalf("entry %d: error %d", i, err)
		}
		if again, err := Extend(longer, e); err != api.ErrDuplicate || len(again) != 0 {
			t.Errorf("entry %d again: error %d, %d entries", i, err, len(again))
		}
		w = longer
	}
	for _, e := range []api.Entry{{}, {Kind: 11, Name: sym("x")}, label("id"), theorem("x", "(unknown x)"), macro("x x", "y")} {
		got, err := Extend(w, e)
		if want := Check(w, e); err == api.OK || err != want || len(got) != 0 {
			t.Errorf("Extend: error %d, want %d, %d entries", err, want, len(got))
		}
	}
}

func TestValid(t *testing.T) {
	w := base()
	for i := range w {
		spoilt := base()
		spoilt[i].Kind = 0
		expectBool(t, "an entry without a kind", Valid(spoilt), false)
		expectBool(t, "the entries before it", Valid(spoilt[:i]), true)
		expectBool(t, "an entry twice", Valid(append(base(), w[i])), false)
	}
	expectBool(t, "a function that comes later", Valid([]api.Entry{theorem("x", "(f x)"), defun("f x", "x")}), false)
	expectBool(t, "a function that comes first", Valid([]api.Entry{defun("f x", "x"), theorem("x", "(f x)")}), true)
	expectBool(t, "a theory of a later name", Valid([]api.Entry{{Kind: api.EntryTheory, Name: sym("y"), Enabled: syms("f")}, defun("f x", "x")}), false)
	full := filled(base())
	expectBool(t, "as many entries as are allowed", Valid(full), true)
	expectBool(t, "one more", Valid(append(full, label("more"))), false)
}

func TestUndo(t *testing.T) {
	w := base()
	for i := range w {
		got, is := Undo(w, w[i].Name)
		if !is || !sameList(got, w[:i]) {
			t.Errorf("Undo to %s: %d entries, %v", w[i].Name.Name, len(got), is)
		}
	}
	for _, name := range syms("odd g st-get a::id car nil x") {
		got, is := Undo(w, name)
		expectNone(t, "Undo to "+name.Name, got, is)
	}
	got, is := Undo(nil, sym("id"))
	expectNone(t, "Undo of nothing", got, is)
	w = []api.Entry{label("b"), label("c"), theorem("c", "x"), label("d")}
	got, is = Undo(w, sym("c"))
	if !is || !sameList(got, w[:1]) {
		t.Errorf("Undo to the first of two: %d entries, %v", len(got), is)
	}
}
