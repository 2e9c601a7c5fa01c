package term

import (
	"lispprover/api"
	"lispprover/object"
)

// Equal reports whether all fields of a and b are equal.
func Equal(a, b api.Term) bool {
	return haveSameFields(&a, &b) && patternFor(&a).equals(&b)
}

// pattern is a term that others are compared with.
type pattern struct {
	term  *api.Term
	large bool
}

func patternFor(t *api.Term) pattern {
	return pattern{term: t, large: isLarge(t)}
}

// meeting is a list of arguments of the one term and one of the other term that are compared with each other.
type meeting struct{ a, b place }

// equals reports whether all fields of p and t are equal.
func (p pattern) equals(t *api.Term) bool {
	var m *memory[meeting, bool]
	if p.large {
		// Where two lists meet within themselves, there is no further difference.
		m = &memory[meeting, bool]{within: true, found: map[meeting]bool{}}
	}
	return areEqual(m, p.term, t)
}

func areEqual(m *memory[meeting, bool], a, b *api.Term) bool {
	if !haveSameFields(a, b) {
		return false
	}
	at := meeting{placeOf(a.Args), placeOf(b.Args)}
	return at.a == at.b || m.recall(at, func() bool {
		for i := range a.Args {
			if !areEqual(m, &a.Args[i], &b.Args[i]) {
				return false
			}
		}
		return true
	})
}

// haveSameFields regards only the number of the arguments.
func haveSameFields(a, b *api.Term) bool {
	return a.Kind == b.Kind && a.Name == b.Name && len(a.Args) == len(b.Args) && object.Equal(a.Value, b.Value)
}
