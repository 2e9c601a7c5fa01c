package translate

import (
	"lispprover/api"
	"lispprover/object"
	"lispprover/term"
)

// Form returns a form that stands for t.
func Form(t api.Term) api.Object {
	w := writer{}
	if term.Nodes(t) > api.MaxNodes {
		w.lists = map[place]api.Object{}
	}
	return w.form(&t)
}

// place is where a list of arguments lies.
type place struct {
	first  *api.Term
	length int
}

// writer writes terms as forms.
type writer struct {
	// For a term with more nodes than a valid one, lists keeps the forms of its lists of arguments, so that what lies at many positions of it, or within itself, is written only once. For others it is nil.
	lists map[place]api.Object
}

// form returns a form that stands for t.
func (w *writer) form(t *api.Term) api.Object {
	switch t.Kind {
	case api.Variable:
		return object.Symbol(t.Name)
	case api.Constant:
		if isSelfEvaluating(&t.Value) {
			return t.Value
		}
		return call("quote", t.Value)
	case api.Call:
		return object.Cons(object.Symbol(t.Name), w.forms(t.Args))
	}
	return api.Object{}
}

// forms returns the list of the forms of l.
func (w *writer) forms(l []api.Term) api.Object {
	if w.lists == nil || len(l) == 0 {
		return w.newForms(l)
	}
	at := place{&l[0], len(l)}
	if known, is := w.lists[at]; is {
		return known
	}
	w.lists[at] = api.Object{}
	forms := w.newForms(l)
	w.lists[at] = forms
	return forms
}

func (w *writer) newForms(l []api.Term) api.Object {
	forms := make([]api.Object, len(l))
	for i := range l {
		forms[i] = w.form(&l[i])
	}
	return object.List(forms...)
}
