package translate

import (
	"lispprover/api"
	"lispprover/evaluate"
	"lispprover/object"
	"lispprover/world"
)

// Expand returns the expansion of a macro call and true; any other object and false.
func Expand(w []api.Entry, form api.Object) (api.Object, bool, api.Errno) {
	items, _ := object.Items(form)
	if len(items) == 0 || items[0].Kind != api.KindSymbol || !isMacro(w, items[0].Sym) {
		return form, false, api.OK
	}
	expansion, err := callOf(&form, items).expand(w)
	if err != api.OK {
		return api.Object{}, false, err
	}
	return expansion, true, api.OK
}

// isMacro reports whether name is the name of a macro.
func isMacro(w []api.Entry, name api.Symbol) bool {
	if builtIn(name) != nil {
		return true
	}
	_, is := world.Macro(w, name)
	return is
}

// macroCall is a macro call.
type macroCall struct {
	name api.Symbol
	args []api.Object // the argument forms
	list api.Object   // the list of the argument forms
}

// callOf returns the macro call that a form with these items is.
func callOf(form *api.Object, items []api.Object) *macroCall {
	return &macroCall{name: items[0].Sym, args: items[1:], list: form.Pair[1]}
}

// after returns the list of the argument forms after the first n. It is a part of the call, since its copies might need far more memory.
func (c *macroCall) after(n int) api.Object {
	l := c.list
	for range n {
		l = l.Pair[1]
	}
	return l
}

// expand returns the expansion of a macro call.
func (c *macroCall) expand(w []api.Entry) (api.Object, api.Errno) {
	rules := builtIn(c.name)
	if rules == nil {
		return c.evaluate(w)
	}
	expansion, matches := rules(c)
	if !matches {
		return api.Object{}, api.ErrForm
	}
	return expansion, api.OK
}

// evaluate returns the expansion of the call of a macro of w.
func (c *macroCall) evaluate(w []api.Entry) (api.Object, api.Errno) {
	m, _ := world.Macro(w, c.name)
	env, fits := c.bindings(&m)
	if !fits {
		return api.Object{}, api.ErrArity
	}
	expansion, _, err := evaluate.Term(w, m.Body, env, api.MaxSteps)
	return expansion, err
}

// bindings returns the values of the parameters of m, and true; false if it cannot have so many argument forms.
func (c *macroCall) bindings(m *api.Macro) ([]api.Binding, bool) {
	single := len(m.Params)
	if m.Rest && single > 0 {
		single--
	}
	if len(c.args) < single || len(c.args) > single && !m.Rest {
		return nil, false
	}
	env := make([]api.Binding, len(m.Params))
	for i, p := range m.Params {
		env[i].Var = p
		if i < single {
			env[i].Value = c.args[i]
		} else {
			env[i].Value = c.after(single)
		}
	}
	return env, true
}
