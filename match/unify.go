package match

import (
	"lispprover/api"
	"lispprover/term"
)

// Unify returns a most general unifier of a and b, and true; false if there is none.
func Unify(a, b api.Term) ([]api.Assign, bool) {
	u := unification{terms: map[api.Symbol]*api.Term{}, lists: map[place]instances{}}
	if !u.unify(&a, &b) {
		return nil, false
	}
	return u.result()
}

// unification keeps the terms that it assigns as they are in the terms to be unified: the instances could have far more nodes. It replaces the variables in them at the end, and only then finds out whether a variable is assigned a term in which it occurs.
type unification struct {
	met       meetings
	variables []api.Symbol // in the order in which they were assigned
	terms     map[api.Symbol]*api.Term
	lists     map[place]instances
}

// instances are the instances of a list of arguments.
type instances struct {
	args []api.Term
	done bool
}

// unify assigns terms to variables until the instances of a and b are equal, and reports whether this is possible (if terms may contain themselves).
func (u *unification) unify(a, b *api.Term) bool {
	a, b = u.value(a), u.value(b)
	switch {
	case a.Kind == api.Variable && b.Kind == api.Variable && a.Name == b.Name:
		return true
	case a.Kind == api.Variable:
		u.assign(a.Name, b)
		return true
	case b.Kind == api.Variable:
		u.assign(b.Name, a)
		return true
	case haveSameHeads(a, b):
		return u.unifyAll(a.Args, b.Args)
	}
	return term.Equal(*a, *b)
}

// unifyAll unifies two lists of the same length.
func (u *unification) unifyAll(l, m []api.Term) bool {
	if u.met.before(placeOf(l), placeOf(m)) {
		return true
	}
	for i := range l {
		if !u.unify(&l[i], &m[i]) {
			return false
		}
	}
	return true
}

// assign assigns t to the variable v, which is not yet assigned a term.
func (u *unification) assign(v api.Symbol, t *api.Term) {
	u.variables = append(u.variables, v)
	u.terms[v] = t
}

// value returns the term that is assigned to t, or to the variable that is assigned to t, and so on.
func (u *unification) value(t *api.Term) *api.Term {
	for t.Kind == api.Variable {
		next, is := u.terms[t.Name]
		if !is {
			break
		}
		t = next
	}
	return t
}

// result returns the assignments in their order, and true; false if a variable is assigned a term in which it occurs.
func (u *unification) result() ([]api.Assign, bool) {
	var s []api.Assign
	for _, v := range u.variables {
		t, exists := u.instance(u.terms[v])
		if !exists {
			return nil, false
		}
		s = append(s, api.Assign{Var: v, Term: t})
	}
	return s, true
}

// instance returns t with the variables replaced until none is left that is assigned a term, and true; false if the result would contain itself.
func (u *unification) instance(t *api.Term) (api.Term, bool) {
	t = u.value(t)
	if t.Kind != api.Call {
		return *t, true
	}
	args, exist := u.instancesOf(t.Args)
	call := *t
	call.Args = args
	return call, exist
}

// instancesOf returns the instances of a list of arguments, and true; false if one of them would contain itself.
func (u *unification) instancesOf(l []api.Term) ([]api.Term, bool) {
	at := placeOf(l)
	if known, is := u.lists[at]; is {
		return known.args, known.done
	}
	u.lists[at] = instances{}
	var args []api.Term
	for i := range l {
		t, exists := u.instance(&l[i])
		if !exists {
			return nil, false
		}
		args = append(args, t)
	}
	u.lists[at] = instances{args: args, done: true}
	return args, true
}
