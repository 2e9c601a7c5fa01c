package translate

import (
	"sync"

	"lispprover/api"
)

// maxNesting is how many lists that lie within each other are translated on one stack. A valid form does not need a second one, unless macros make it deeper.
const maxNesting = 1 << 12

// finding is what was found for a list: its term, and how many macro calls were expanded for it. It is not complete as long as the list is being translated.
type finding struct {
	complete   bool
	term       *api.Term
	expansions int
}

// list returns the term of a list. What lies at many positions of a form, or within itself, is translated only once, since a form that is not valid might be gone through for ever.
func (t *translator) list(form *api.Object) (*api.Term, api.Errno) {
	place := &form.Pair[0]
	if known := t.found[place]; known != nil {
		return t.repeated(known)
	}
	entered := &finding{}
	t.found[place] = entered
	before := t.expansions
	t.nesting++
	x, err := t.listOnAnyStack(form)
	t.nesting--
	if err != api.OK {
		return nil, err
	}
	*entered = finding{complete: true, term: x, expansions: t.expansions - before}
	return x, api.OK
}

// repeated returns the term of a list that has been met before; its macro calls count again. A list within itself has no term, or needs too many expansions.
func (t *translator) repeated(known *finding) (*api.Term, api.Errno) {
	if !known.complete {
		return nil, api.ErrLimit
	}
	if err := t.count(known.expansions); err != api.OK {
		return nil, err
	}
	return known.term, api.OK
}

// listOnAnyStack returns the term of a list. Macros may nest forms so deep that one stack does not have room for all of them.
func (t *translator) listOnAnyStack(form *api.Object) (*api.Term, api.Errno) {
	if t.nesting%maxNesting == 0 {
		return t.listOnNewStack(form)
	}
	return t.newList(form)
}

func (t *translator) listOnNewStack(form *api.Object) (x *api.Term, err api.Errno) {
	var translation sync.WaitGroup
	translation.Go(func() { x, err = t.newList(form) })
	translation.Wait()
	return x, err
}
