package term

import (
	"iter"

	"lispprover/api"
)

// subterms returns the subterms of the terms l, in order. (Of a term that has more of them than a valid one, it may leave out those that it has returned before.)
func subterms(l ...api.Term) iter.Seq[*api.Term] {
	return func(yield func(*api.Term) bool) {
		for i := range l {
			m := memoryFor[place](&l[i], true)
			if !visit(m, &l[i], yield) {
				return
			}
		}
	}
}

// visit yields the subterms of t, and reports whether more are wanted.
func visit(m *memory[place, bool], t *api.Term, yield func(*api.Term) bool) bool {
	if !yield(t) {
		return false
	}
	return t.Kind != api.Call || m.recall(placeOf(t.Args), func() bool {
		for i := range t.Args {
			if !visit(m, &t.Args[i], yield) {
				return false
			}
		}
		return true
	})
}

// Ground reports whether t contains no variable.
func Ground(t api.Term) bool {
	for s := range subterms(t) {
		if s.Kind == api.Variable {
			return false
		}
	}
	return true
}

// Variables returns the variables of the terms, each once, in the order in which they occur first.
func Variables(l ...api.Term) []api.Symbol {
	return names(api.Variable, l)
}

// Functions returns the functions that the terms call, each once, in the order in which they occur first.
func Functions(l ...api.Term) []api.Symbol {
	return names(api.Call, l)
}

// names returns the names of the subterms of this kind, each once, in the order in which they occur first.
func names(kind int, l []api.Term) []api.Symbol {
	var found []api.Symbol
	known := map[api.Symbol]bool{}
	for s := range subterms(l...) {
		if s.Kind == kind && !known[s.Name] {
			known[s.Name] = true
			found = append(found, s.Name)
		}
	}
	return found
}

// Occurs reports whether a is a subterm of b.
func Occurs(a, b api.Term) bool {
	for s := range subterms(b) {
		if areEqual(&a, s) {
			return true
		}
	}
	return false
}
