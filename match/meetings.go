package match

import "lispprover/api"

// place is where a list of arguments lies.
type place struct {
	first   *api.Term
	length  int
	pattern bool // the list is meant as one of patterns, not of terms
}

// placeOf returns the place of l; all empty lists have the same.
func placeOf(l []api.Term) place {
	if len(l) == 0 {
		return place{}
	}
	return place{first: &l[0], length: len(l)}
}

// placeInPattern returns the place of l, a list of patterns. The same memory can also be a list of terms, with another meaning.
func placeInPattern(l []api.Term) place {
	p := placeOf(l)
	p.pattern = true
	return p
}

// meetings knows which lists of arguments were gone through side by side. As long as no difference has been found, lists that met are equal (under the substitution that is sought, if there is one), and so are lists that met the same list: they form a class.
type meetings struct {
	steps int
	next  map[place]place // from a list to another one of its class; one list of each class has none
}

// before reports whether it is known that the lists at a and b are equal, or that they are being compared already; if not, they meet now.
func (m *meetings) before(a, b place) bool {
	if a == b {
		return true
	}
	// To match a valid pattern, or to compare valid terms, takes no more steps than this. A unification, or terms that are not valid, might take for ever, so the meetings count from here on.
	m.steps++
	if m.steps <= api.MaxNodes {
		return false
	}
	a, b = m.last(a), m.last(b)
	if a == b {
		return true
	}
	if m.next == nil {
		m.next = map[place]place{}
	}
	m.next[a] = b
	return false
}

// last returns the list of the class of p that has no next one, and shortens the way to it.
func (m *meetings) last(p place) place {
	for {
		next, is := m.next[p]
		if !is {
			return p
		}
		if further, is := m.next[next]; is {
			m.next[p] = further
		}
		p = next
	}
}
