package term

import (
	"lispprover/api"
	"lispprover/object"
)

// Quote returns the object that represents t.
func Quote(t api.Term) api.Object {
	return quote(memoryFor[place](&t, api.Object{}), &t)
}

func quote(m *memory[place, api.Object], t *api.Term) api.Object {
	switch t.Kind {
	case api.Variable:
		return object.Symbol(t.Name)
	case api.Constant:
		return object.List(object.Symbol(lisp("quote")), t.Value)
	case api.Call:
		return object.Cons(object.Symbol(t.Name), quoteAll(m, t.Args))
	}
	return api.Object{}
}

// quoteAll returns the list of the objects that represent the terms l.
func quoteAll(m *memory[place, api.Object], l []api.Term) api.Object {
	return m.recall(placeOf(l), func() api.Object {
		var items []api.Object
		for i := range l {
			items = append(items, quote(m, &l[i]))
		}
		return object.List(items...)
	})
}

// Unquote returns the valid term that o represents, and true; false if there is none.
func Unquote(o api.Object) (api.Term, bool) {
	u := unquoting{left: api.MaxNodes}
	t := u.term(o)
	// The parts of an object that is not valid may have further fields, which are not noticed on the way.
	if !Valid(t) || !object.Equal(Quote(t), o) {
		return api.Term{}, false
	}
	return t, true
}

// unquoting goes through an object that may not be valid, and may have no end.
type unquoting struct {
	left int // how many further nodes a valid term may have
}

// term returns the term that o represents; if there is none, or if it has too many nodes, it returns a term that is not valid.
func (u *unquoting) term(o api.Object) api.Term {
	u.left--
	if u.left < 0 {
		return api.Term{}
	}
	if o.Kind == api.KindSymbol {
		return Var(o.Sym)
	}
	items, proper := object.Items(o)
	if !proper || items[0].Kind != api.KindSymbol {
		return api.Term{}
	}
	if items[0].Sym != lisp("quote") {
		return u.call(items[0].Sym, items[1:])
	}
	if len(items) != 2 {
		return api.Term{}
	}
	return Const(items[1])
}

// call returns the call of f with the arguments that l represents; if there is none, it returns a term that is not valid.
func (u *unquoting) call(f api.Symbol, l []api.Object) api.Term {
	// Valid would find this, too, but only after all of a list that may be very long.
	if len(l) > api.MaxParams {
		return api.Term{}
	}
	var args []api.Term
	for _, o := range l {
		args = append(args, u.term(o))
	}
	return App(f, args...)
}
