package term

import "lispprover/api"

// place is where a list of arguments lies.
type place struct {
	first  *api.Term
	length int
}

// placeOf returns the place of l; all empty lists have the same.
func placeOf(l []api.Term) place {
	if len(l) == 0 {
		return place{}
	}
	return place{&l[0], len(l)}
}

// memory keeps what was found at places, so that what lies at many positions of a term, or within itself, is gone through only once. A nil memory keeps nothing.
type memory[K comparable, R any] struct {
	within R // what is found at a place within itself
	found  map[K]R
}

// memoryFor returns a memory for going through t, or nil if t has no more nodes than a valid term: for that, it would cost more than it saves.
func memoryFor[K comparable, R any](t *api.Term, within R) *memory[K, R] {
	if !isLarge(t) {
		return nil
	}
	return &memory[K, R]{within: within, found: map[K]R{}}
}

// recall returns what was found at a place before, or else what find returns.
func (m *memory[K, R]) recall(at K, find func() R) R {
	if m == nil {
		return find()
	}
	if result, known := m.found[at]; known {
		return result
	}
	m.found[at] = m.within
	result := find()
	m.found[at] = result
	return result
}
