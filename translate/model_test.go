package translate

import (
	"math/rand"
	"slices"
	"strings"
	"testing"

	"lispprover/api"
	"lispprover/object"
	"lispprover/primitive"
	"lispprover/term"
)

// Random forms against a model that has the rules of the chapter as a table, and the consequence P12.4

// ruleTable is the table of the chapter; a, b, c and r stand for any forms. The second part is for macros of a world.
func ruleTable() []pair {
	return []pair{
		{"(list)", "nil"}, {"(list a . r)", "(cons a (list . r))"},
		{"(list* a)", "a"}, {"(list* a b . r)", "(cons a (list* b . r))"},
		{"(and)", "t"}, {"(and a)", "a"}, {"(and a b . r)", "(if a (and b . r) nil)"},
		{"(or)", "nil"}, {"(or a)", "a"}, {"(or a b . r)", "(if a a (or b . r))"},
		{"(cond)", "nil"}, {"(cond (a b) . r)", "(if a b (cond . r))"},
		{"(+)", "0"}, {"(+ a)", "(binary-+ 0 a)"}, {"(+ a b)", "(binary-+ a b)"}, {"(+ a b c . r)", "(binary-+ a (+ b c . r))"},
		{"(*)", "1"}, {"(* a)", "(binary-* 1 a)"}, {"(* a b)", "(binary-* a b)"}, {"(* a b c . r)", "(binary-* a (* b c . r))"},
		{"(- a)", "(unary-- a)"}, {"(- a b)", "(binary-+ a (unary-- b))"}, {"(/ a)", "(unary-/ a)"}, {"(/ a b)", "(binary-* a (unary-/ b))"},
		{"(<= a b)", "(not (< b a))"}, {"(> a b)", "(< b a)"}, {"(>= a b)", "(not (< a b))"},
		{"(append)", "nil"}, {"(append a)", "a"}, {"(append a b . r)", "(binary-append a (append b . r))"},
	}
}

func worldTable() []pair {
	return []pair{
		{"(same a)", "a"}, {"(swap a b)", "(cons b a)"}, {"(dup a)", "(cons a a)"}, {"(none-of . r)", "nil"}, {"(rest-of a . r)", "(list . r)"}, {"(all . r)", "(quote r)"}, {"(bind a b . r)", "(let ((a b)) (list a . r))"}, {"(bind* a b)", "(let* ((a b) (a a)) a)"}, {"(bad a)", "(a . b)"}, {"(a::m a b c)", "(or c (and b a))"},
	}
}

// worldOf returns a world with macros for the rules of the world, and with functions.
func worldOf(l []pair) []api.Entry {
	w := []api.Entry{{Kind: api.EntryPackage, Name: sym("a-package"), Package: api.Package{Name: "a"}}, defun("not x", "(if x nil t)"), defun("binary-append x y", "y"), defun("five", "'5"), defun("id x", "x"), defun("three x y z", "x")}
	for _, p := range l {
		pattern, head := obj(p.form), ""
		for pattern.Kind == api.KindCons {
			head += " " + pattern.Pair[0].Sym.Package + "::" + pattern.Pair[0].Sym.Name
			pattern = pattern.Pair[1]
		}
		if !object.IsNil(pattern) {
			head += " & r"
		}
		e := defmacro(head, "nil")
		e.Macro.Body = builder(obj(p.want), e.Macro.Params)
		w = append(w, e)
	}
	return w
}

// builder returns a term whose value is o with the values of the variables.
func builder(o api.Object, variables []api.Symbol) api.Term {
	if o.Kind == api.KindCons {
		return app("cons", builder(o.Pair[0], variables), builder(o.Pair[1], variables))
	}
	if o.Kind == api.KindSymbol && slices.Contains(variables, o.Sym) {
		return api.Term{Kind: api.Variable, Name: o.Sym}
	}
	return constant(o)
}

// fits reports whether o matches a pattern, and collects what a, b, c and r stand for.
func fits(pattern, o api.Object, found map[string]api.Object) bool {
	if pattern.Kind == api.KindSymbol && slices.Contains([]string{"a", "b", "c", "r"}, pattern.Sym.Name) {
		found[pattern.Sym.Name] = o
		return true
	}
	if pattern.Kind == api.KindCons && o.Kind == api.KindCons {
		return fits(pattern.Pair[0], o.Pair[0], found) && fits(pattern.Pair[1], o.Pair[1], found)
	}
	return object.Equal(pattern, o)
}

func filled(template api.Object, found map[string]api.Object) api.Object {
	if template.Kind == api.KindCons {
		return object.Cons(filled(template.Pair[0], found), filled(template.Pair[1], found))
	}
	if o, is := found[template.Sym.Name]; is && template.Kind == api.KindSymbol {
		return o
	}
	return template
}

// rule is a row of a table, read.
type rule struct{ pattern, template api.Object }

func rulesOf(l []pair) []rule {
	var r []rule
	for _, p := range l {
		r = append(r, rule{obj(p.form), obj(p.want)})
	}
	return r
}

// model translates forms by the letter of the chapter.
type model struct {
	builtIn, ofWorld []rule
	arities          map[api.Symbol]int
	expansions       int
}

// newModel returns a model for worldOf(worldTable()), where the extra functions come first.
func newModel(extra []api.Function) *model {
	m := &model{builtIn: rulesOf(ruleTable()), ofWorld: rulesOf(worldTable()), arities: map[api.Symbol]int{sym("not"): 1, sym("binary-append"): 2, sym("five"): 0, sym("id"): 1, sym("three"): 3}}
	for _, f := range primitive.Names() {
		m.arities[f], _ = primitive.Arity(f)
	}
	for _, f := range slices.Backward(extra) {
		m.arities[f.Name] = len(f.Params)
	}
	return m
}

// isProper reports whether o is a proper list, and returns its length.
func isProper(o api.Object) (int, bool) {
	n := 0
	for ; o.Kind == api.KindCons; o = o.Pair[1] {
		n++
	}
	return n, object.IsNil(o)
}

// expand returns the expansion of a macro call and true.
func (m *model) expand(form api.Object) (api.Object, bool, api.Errno) {
	if n, proper := isProper(form); !proper || n == 0 {
		return form, false, api.OK
	}
	for i, rules := range [][]rule{m.builtIn, m.ofWorld} {
		is := false
		for _, r := range rules {
			found := map[string]api.Object{}
			is = is || object.Equal(r.pattern.Pair[0], form.Pair[0])
			if object.Equal(r.pattern.Pair[0], form.Pair[0]) && fits(r.pattern.Pair[1], form.Pair[1], found) {
				return filled(r.template, found), true, api.OK
			}
		}
		if is {
			return api.Object{}, false, []api.Errno{api.ErrForm, api.ErrArity}[i]
		}
	}
	return form, false, api.OK
}

// count counts an expansion.
func (m *model) count() api.Errno {
	m.expansions++
	if m.expansions > api.MaxExpand {
		return api.ErrLimit
	}
	return api.OK
}

func (m *model) term(form api.Object) (api.Term, api.Errno) {
	if form.Kind != api.KindCons {
		return fromObject(form), api.OK
	}
	n, proper := isProper(form)
	if !proper || form.Pair[0].Kind != api.KindSymbol {
		return api.Term{}, api.ErrForm
	}
	switch form.Pair[0].Sym {
	case lisp("quote"):
		if n != 2 {
			return api.Term{}, api.ErrForm
		}
		return constant(form.Pair[1].Pair[0]), api.OK
	case lisp("let"), lisp("let*"):
		return m.let(form, n)
	}
	expansion, is, err := m.expand(form)
	if is || err != api.OK {
		if err := m.count(); err != api.OK {
			return api.Term{}, err
		}
	}
	if err != api.OK {
		return api.Term{}, err
	}
	if is {
		return m.term(expansion)
	}
	return m.call(form)
}

func (m *model) call(form api.Object) (api.Term, api.Errno) {
	t := api.Term{Kind: api.Call, Name: form.Pair[0].Sym}
	for l := form.Pair[1]; l.Kind == api.KindCons; l = l.Pair[1] {
		x, err := m.term(l.Pair[0])
		if err != api.OK {
			return api.Term{}, err
		}
		t.Args = append(t.Args, x)
	}
	arity, is := m.arities[t.Name]
	if !is {
		return api.Term{}, api.ErrFunction
	}
	if arity != len(t.Args) {
		return api.Term{}, api.ErrArity
	}
	return t, api.OK
}

// let returns the term of a let or let* form with n elements. A let* form is rewritten.
func (m *model) let(form api.Object, n int) (api.Term, api.Errno) {
	if n != 3 {
		return api.Term{}, api.ErrForm
	}
	bindings, body := form.Pair[1].Pair[0], form.Pair[1].Pair[1].Pair[0]
	if _, proper := isProper(bindings); !proper {
		return api.Term{}, api.ErrForm
	}
	for l := bindings; l.Kind == api.KindCons; l = l.Pair[1] {
		if n, proper := isProper(l.Pair[0]); !proper || n != 2 {
			return api.Term{}, api.ErrForm
		}
	}
	if form.Pair[0].Sym == lisp("let") {
		return m.letAll(bindings, body)
	}
	if object.IsNil(bindings) {
		return m.term(body)
	}
	if err := m.count(); err != api.OK {
		return api.Term{}, err
	}
	return m.term(listOf("let", object.List(bindings.Pair[0]), listOf("let*", bindings.Pair[1], body)))
}

func (m *model) letAll(bindings, body api.Object) (api.Term, api.Errno) {
	var names []api.Object
	var forms []api.Object
	for l := bindings; l.Kind == api.KindCons; l = l.Pair[1] {
		names, forms = append(names, l.Pair[0].Pair[0]), append(forms, l.Pair[0].Pair[1].Pair[0])
	}
	if slices.ContainsFunc(names, func(o api.Object) bool { return o.Kind != api.KindSymbol }) {
		return api.Term{}, api.ErrForm
	}
	if slices.ContainsFunc(names, func(o api.Object) bool { return object.IsNil(o) || object.Equal(o, object.T()) }) {
		return api.Term{}, api.ErrName
	}
	values := map[api.Symbol]api.Term{}
	for _, o := range names {
		if _, is := values[o.Sym]; is {
			return api.Term{}, api.ErrDuplicate
		}
		values[o.Sym] = api.Term{}
	}
	for i, o := range forms {
		x, err := m.term(o)
		if err != api.OK {
			return api.Term{}, err
		}
		values[names[i].Sym] = x
	}
	x, err := m.term(body)
	if err != api.OK {
		return api.Term{}, err
	}
	return replaced(x, values), api.OK
}

// replaced returns t with the values of the variables.
func replaced(t api.Term, values map[api.Symbol]api.Term) api.Term {
	if value, is := values[t.Name]; is && t.Kind == api.Variable {
		return value
	}
	if t.Kind == api.Call {
		t.Args = slices.Clone(t.Args)
		for i := range t.Args {
			t.Args[i] = replaced(t.Args[i], values)
		}
	}
	return t
}

// maker makes forms.
type maker struct {
	*rand.Rand
	atoms  []api.Object
	calls  []api.Object // the function, and a list of as many elements as it has parameters
	macros []string
	pool   []api.Object // forms that were made before
	wild   int          // one of so many forms is wrong; 0 for none
}

func newMaker(seed int64) *maker {
	m := &maker{Rand: rand.New(rand.NewSource(seed))}
	m.atoms = objs(`nil t 0 1 -1/2 "s" x y z a::x list 'x '(x . y) '5 'nil x y z`)
	m.calls = objs("(car 1) (cons 1 1) (cons 1 1) (if 1 1 1) (equal 1 1) (not 1) (five) (id 1) (three 1 1 1) (new 1 1)")
	for _, p := range append(ruleTable(), worldTable()...) {
		if !strings.HasPrefix(p.form, "(bad") {
			m.macros = append(m.macros, p.form)
		}
	}
	return m
}

func pick[T any](m *maker, l []T) T {
	return l[m.Intn(len(l))]
}

// form returns a form of at most this many levels.
func (m *maker) form(depth int) api.Object {
	if len(m.pool) > 0 && m.Intn(12) == 0 {
		return pick(m, m.pool)
	}
	if depth <= 1 || m.Intn(7) == 0 {
		return pick(m, m.atoms)
	}
	o := m.list(depth)
	if m.wild > 0 && m.Intn(m.wild) == 0 {
		o = m.wrong(o)
	}
	m.pool = append(m.pool, o)
	return o
}

func (m *maker) list(depth int) api.Object {
	switch m.Intn(8) {
	case 0, 1:
		return object.List(pick(m, objs("let let*")), m.bindings(depth-1, m.Intn(4)), m.form(depth-1))
	case 2, 3, 4:
		pattern := obj(pick(m, m.macros))
		return object.Cons(pattern.Pair[0], m.instance(pattern.Pair[1], depth-1))
	}
	call := pick(m, m.calls)
	n, _ := isProper(call)
	return object.Cons(call.Pair[0], m.forms(depth-1, n-1))
}

// instance returns an instance of the parameters of a macro. Its variables are often used as names, which are symbols.
func (m *maker) instance(pattern api.Object, depth int) api.Object {
	switch {
	case pattern.Kind == api.KindCons:
		return object.Cons(m.instance(pattern.Pair[0], depth), m.instance(pattern.Pair[1], depth))
	case object.IsNil(pattern):
		return pattern
	case pattern.Sym.Name == "r":
		return m.forms(depth, m.Intn(3))
	case m.Intn(4) == 0:
		return pick(m, objs("x y z"))
	}
	return m.form(depth)
}

func (m *maker) forms(depth, n int) api.Object {
	l := object.Nil()
	for range n {
		l = object.Cons(m.form(depth), l)
	}
	return l
}

// bindings returns the bindings of a let or let* form.
func (m *maker) bindings(depth, n int) api.Object {
	names := objs("x y z list a::x")
	m.Shuffle(len(names), func(i, j int) { names[i], names[j] = names[j], names[i] })
	l := object.Nil()
	for i := range n {
		if m.wild > 0 && m.Intn(m.wild) == 0 {
			names[i] = pick(m, append(objs("nil t 5 (x)"), names[0], names[0]))
		}
		l = object.Cons(object.List(names[i], m.form(depth)), l)
	}
	return l
}

// wrong changes a list so that it may be wrong.
func (m *maker) wrong(o api.Object) api.Object {
	switch m.Intn(8) {
	case 0:
		return object.Cons(pick(m, objs("none 5 \"s\" (x) nil bad cap")), o.Pair[1])
	case 1:
		return object.Cons(o.Pair[0], object.Cons(m.form(2), o.Pair[1]))
	case 2:
		if o.Pair[1].Kind == api.KindCons {
			return object.Cons(o.Pair[0], o.Pair[1].Pair[1])
		}
		return object.Cons(o.Pair[0], obj("x"))
	case 3:
		items, _ := object.Items(o)
		i := m.Intn(len(items))
		items[i] = pick(m, objs("(none x) (car) (5) (let ((nil 1)) x) (let ((x 1) (x 2)) x) (list*) (quote) (same) (x . y)"))
		return object.List(items...)
	}
	return o
}

// long returns a form that needs many expansions, or whose term may be large or deep.
func (m *maker) long(o api.Object) api.Object {
	switch m.Intn(6) {
	case 0:
		return nest(pick(m, strings.Fields("dup dup same not")), m.Intn(11), o)
	case 1:
		return object.List(obj("cons"), spend(470+m.Intn(32)), o)
	case 2:
		for range m.Intn(12) {
			o = object.List(obj("let"), object.List(object.List(obj("x"), obj("(cons x x)"))), o)
		}
	case 3:
		return nest("car", 150+m.Intn(60), o)
	case 4:
		return letForm(nest("car", 150+m.Intn(100), o), obj("x"))
	}
	return o
}

func TestAgainstModel(t *testing.T) {
	m := newMaker(1)
	w := worldOf(worldTable())
	expectValidWorld(t, w)
	extra := funs("new x y", "id x y")
	counts := map[api.Errno]int{}
	models := []*model{newModel(nil), newModel(extra)}
	for i := range 15000 {
		m.pool, m.wild = nil, []int{0, 40, 8}[i%3]
		form := m.form(1 + m.Intn(6))
		if m.Intn(4) == 0 {
			form = m.long(form)
		}
		with, model := extra[:i%2*2], models[i%2]
		model.expansions = 0
		want, err := model.term(form)
		if err == api.OK && !term.Valid(want) {
			err = api.ErrLimit
		}
		counts[err]++
		if err != api.OK {
			expectTermError(t, w, with, form, err)
		} else {
			expectTerm(t, w, with, form, want)
		}
		expectSameExpansion(t, w, model, form)
		for _, o := range m.pool {
			expectSameExpansion(t, w, model, o)
		}
	}
	for _, err := range []api.Errno{api.OK, api.ErrForm, api.ErrName, api.ErrDuplicate, api.ErrArity, api.ErrFunction, api.ErrLimit} {
		if counts[err] < 60 {
			t.Errorf("the error %d only %d times", err, counts[err])
		}
	}
}

func expectSameExpansion(t *testing.T, w []api.Entry, m *model, form api.Object) {
	t.Helper()
	want, is, err := m.expand(form)
	switch {
	case err != api.OK:
		expectExpandError(t, w, form, err)
	case is:
		expectExpansion(t, w, form, want)
	default:
		expectNoMacro(t, w, form)
	}
}

// randomTerm returns a term of functions of base.
func (m *maker) randomTerm(depth int) api.Term {
	if depth <= 1 || m.Intn(6) == 0 {
		if m.Intn(2) == 0 {
			return variable(pick(m, strings.Fields("x y a::x list quote let cond same a::nil")))
		}
		return constant(pick(m, objs(`nil t 0 -1/2 "s" x a::nil (list 1) (quote x) (none) ((x . y)) (let ((x 1)) x)`)))
	}
	head := pick(m, []string{"car x", "cons x y", "if x y z", "five", "id x", "three x y z", "eight 1 2 3 4 5 6 7 8", "g x", "pick x", "a::list x", "a::let x", "not x", "binary-append x y"})
	words := strings.Fields(head)
	t := api.Term{Kind: api.Call, Name: sym(words[0])}
	for range len(words) - 1 {
		t.Args = append(t.Args, m.randomTerm(depth-1))
	}
	return t
}

func TestTermOfFormOfRandomTerms(t *testing.T) {
	m := newMaker(2)
	w, large := base(), 0
	for range 3000 {
		x := m.randomTerm(1 + m.Intn(12))
		if !term.Valid(x) {
			continue
		}
		expectReturns(t, w, x)
		if !object.Valid(Form(x)) {
			large++
		}
	}
	if large < 50 {
		t.Errorf("only %d forms that are not valid", large)
	}
}
