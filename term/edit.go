package term

import (
	"slices"

	"lispprover/api"
)

// editor changes a term and its subterms.
type editor struct {
	// edit returns what becomes of a subterm, and whether this is a change.
	edit  func(t *api.Term) (api.Term, bool)
	lists *memory[place, edited]
}

// edited is what becomes of a list of arguments.
type edited struct {
	args    []api.Term
	changed bool
}

// whole returns what becomes of t.
func (e *editor) whole(t api.Term) api.Term {
	e.lists = memoryFor[place](&t, edited{})
	t, _ = e.edit(&t)
	return t
}

// parts returns t with what becomes of its arguments, and whether one of them is changed.
func (e *editor) parts(t *api.Term) (api.Term, bool) {
	if t.Kind != api.Call {
		return *t, false
	}
	l := e.lists.recall(placeOf(t.Args), func() edited { return e.list(t.Args) })
	if !l.changed {
		return *t, false
	}
	call := *t
	call.Args = l.args
	return call, true
}

// list returns what becomes of a list of arguments; it is copied only if one of them is changed.
func (e *editor) list(args []api.Term) edited {
	result := edited{args: args}
	for i := range args {
		t, changed := e.edit(&args[i])
		if !changed {
			continue
		}
		if !result.changed {
			result = edited{args: slices.Clone(args), changed: true}
		}
		result.args[i] = t
	}
	return result
}

// Substitute returns t with each variable that s assigns a term replaced by that term, all at once.
func Substitute(t api.Term, s []api.Assign) api.Term {
	e := &editor{}
	e.edit = func(t *api.Term) (api.Term, bool) {
		if t.Kind != api.Variable {
			return e.parts(t)
		}
		for i := range s {
			if s[i].Var == t.Name {
				return s[i].Term, true
			}
		}
		return *t, false
	}
	return e.whole(t)
}

// Replace returns t with each subterm that equals old replaced by new.
func Replace(t, old, new api.Term) api.Term {
	e := &editor{}
	e.edit = func(t *api.Term) (api.Term, bool) {
		if areEqual(&old, t) {
			return new, true
		}
		return e.parts(t)
	}
	return e.whole(t)
}

// Instance returns t with the functions of l replaced.
func Instance(t api.Term, l []api.Lambda) api.Term {
	e := &editor{}
	e.edit = func(t *api.Term) (api.Term, bool) {
		instance, changed := e.parts(t)
		if f := replacement(l, t); f != nil {
			return Substitute(f.Body, assignment(f.Params, instance.Args)), true
		}
		return instance, changed
	}
	return e.whole(t)
}

// replacement returns the element of l that replaces t, or nil if there is none.
func replacement(l []api.Lambda, t *api.Term) *api.Lambda {
	if t.Kind != api.Call {
		return nil
	}
	i := 0
	for i < len(l) && l[i].Name != t.Name {
		i++
	}
	if i == len(l) || len(l[i].Params) != len(t.Args) {
		return nil
	}
	return &l[i]
}

// assignment assigns each of the variables the term at the same position of l.
func assignment(variables []api.Symbol, l []api.Term) []api.Assign {
	s := make([]api.Assign, len(variables))
	for i, v := range variables {
		s[i] = api.Assign{Var: v, Term: l[i]}
	}
	return s
}
