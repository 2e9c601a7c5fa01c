package world

import (
	"slices"

	"lispprover/api"
	"lispprover/object"
	"lispprover/term"
)

// Known returns the error of the first call in t that has one, or OK.
func Known(w []api.Entry, t api.Term) api.Errno {
	s := survey{world: w}
	if term.Nodes(t) > api.MaxNodes {
		s.seen = map[*api.Term]bool{}
	}
	return s.firstError(&t)
}

// survey goes through the calls of a term.
type survey struct {
	world []api.Entry
	// For a term with more nodes than a valid one, seen keeps its calls, so that what lies at many positions of it, or within itself, is gone through only once. For others it is nil.
	seen map[*api.Term]bool
}

// firstError returns the error of the first call in t that has one, or OK.
func (s *survey) firstError(t *api.Term) api.Errno {
	if t.Kind != api.Call || s.seen[t] {
		return api.OK
	}
	if s.seen != nil {
		s.seen[t] = true
	}
	arity, is := Arity(s.world, t.Name)
	if !is {
		return api.ErrFunction
	}
	if arity != len(t.Args) {
		return api.ErrArity
	}
	for i := range t.Args {
		if err := s.firstError(&t.Args[i]); err != api.OK {
			return err
		}
	}
	return api.OK
}

// Closed reports whether every variable of t is in params.
func Closed(t api.Term, params []api.Symbol) bool {
	for _, v := range term.Variables(t) {
		if !slices.Contains(params, v) {
			return false
		}
	}
	return true
}

// Depends returns the functions, except primitives, that occur in the terms l, in the bodies of these functions, and so on, in ascending order.
func Depends(w []api.Entry, l ...api.Term) []api.Symbol {
	var found []api.Symbol
	known := map[api.Symbol]bool{}
	waiting := term.Functions(l...)
	for len(waiting) > 0 {
		last := len(waiting) - 1
		f := waiting[last]
		waiting = waiting[:last]
		if known[f] || isPrimitive(f) {
			continue
		}
		known[f] = true
		found = append(found, f)
		if function := lookUp(w, f); function != nil {
			waiting = append(waiting, term.Functions(function.Body)...)
		}
	}
	slices.SortFunc(found, compareSymbols)
	return found
}

func compareSymbols(a, b api.Symbol) int {
	return object.Compare(object.Symbol(a), object.Symbol(b))
}

// Executable reports whether f is a primitive, or is defined in w by functions that are all defined in w.
func Executable(w []api.Entry, f api.Symbol) bool {
	// A call depends on its function, unless that is a primitive, and on what the body of this function depends on.
	for _, g := range Depends(w, term.App(f)) {
		function := lookUp(w, g)
		if function == nil || function.Class != api.Defined {
			return false
		}
	}
	return true
}
