package translate

import (
	"slices"

	"lispprover/api"
	"lispprover/object"
	"lispprover/term"
)

// letBinding is a pair (v a) of a let or let* form.
type letBinding struct {
	name, form api.Object
}

// letBindings returns the pairs of a let or let* form; false if it has not the form of one.
func letBindings(items []api.Object) ([]letBinding, bool) {
	if len(items) != 3 {
		return nil, false
	}
	pairs, proper := object.Items(items[1])
	if !proper {
		return nil, false
	}
	bindings := make([]letBinding, len(pairs))
	for i, p := range pairs {
		pair, proper := object.Items(p)
		if !proper || len(pair) != 2 {
			return nil, false
		}
		bindings[i] = letBinding{pair[0], pair[1]}
	}
	return bindings, true
}

// checkNames returns the first error of the names of bindings, or OK.
func checkNames(bindings []letBinding) api.Errno {
	for _, b := range bindings {
		if b.name.Kind != api.KindSymbol {
			return api.ErrForm
		}
	}
	for _, b := range bindings {
		if isNilOrT(b.name.Sym) {
			return api.ErrName
		}
	}
	bound := map[api.Symbol]bool{}
	for _, b := range bindings {
		if bound[b.name.Sym] {
			return api.ErrDuplicate
		}
		bound[b.name.Sym] = true
	}
	return api.OK
}

// assignments returns the assignments of the bindings of one let form.
func (t *translator) assignments(bindings []letBinding) ([]api.Assign, api.Errno) {
	if err := checkNames(bindings); err != api.OK {
		return nil, err
	}
	s := make([]api.Assign, len(bindings))
	for i, b := range bindings {
		x, err := t.term(&b.form)
		if err != api.OK {
			return nil, err
		}
		s[i] = api.Assign{Var: b.name.Sym, Term: *x}
	}
	return s, api.OK
}

// let returns the term of a let form.
func (t *translator) let(items []api.Object) (*api.Term, api.Errno) {
	bindings, is := letBindings(items)
	if !is {
		return nil, api.ErrForm
	}
	s, err := t.assignments(bindings)
	if err != api.OK {
		return nil, err
	}
	body, err := t.term(&items[2])
	if err != api.OK {
		return nil, err
	}
	return bounded(term.Substitute(*body, s)), api.OK
}

// letStar returns the term of a let* form: that of let forms with one binding each, the first of which contains all others.
func (t *translator) letStar(items []api.Object) (*api.Term, api.Errno) {
	bindings, is := letBindings(items)
	if !is {
		return nil, api.ErrForm
	}
	substitutions := make([][]api.Assign, len(bindings))
	for i := range bindings {
		if err := t.count(1); err != api.OK {
			return nil, err
		}
		s, err := t.assignments(bindings[i : i+1])
		if err != api.OK {
			return nil, err
		}
		substitutions[i] = s
	}
	x, err := t.term(&items[2])
	if err != api.OK {
		return nil, err
	}
	for _, s := range slices.Backward(substitutions) {
		x = bounded(term.Substitute(*x, s))
	}
	return x, api.OK
}
