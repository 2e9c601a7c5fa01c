package term

import (
	"lispprover/api"
	"lispprover/object"
)

// Equal reports whether all fields of a and b are equal.
func Equal(a, b api.Term) bool {
	return areEqual(&a, &b)
}

func areEqual(a, b *api.Term) bool {
	c := comparison{}
	return c.agrees(a, b)
}

// comparison goes through two terms at once until it finds a difference.
type comparison struct {
	steps int
	next  map[place]place // from a list of arguments to another one of its class; one list of each class has none
}

// agrees reports whether there is no difference between a and b.
func (c *comparison) agrees(a, b *api.Term) bool {
	if !haveSameFields(a, b) {
		return false
	}
	if c.isSettled(placeOf(a.Args), placeOf(b.Args)) {
		return true
	}
	for i := range a.Args {
		if !c.agrees(&a.Args[i], &b.Args[i]) {
			return false
		}
	}
	return true
}

// haveSameFields regards only the number of the arguments.
func haveSameFields(a, b *api.Term) bool {
	return a.Kind == b.Kind && a.Name == b.Name && len(a.Args) == len(b.Args) && object.Equal(a.Value, b.Value)
}

// isSettled reports whether there is nothing to compare in two lists of the same length: they are the same memory, or in the same class. If not, their classes are joined: a difference between them would end the comparison.
func (c *comparison) isSettled(a, b place) bool {
	if a == b {
		return true
	}
	// A valid term does not have so many lists. One that is not valid might be gone through for ever, so the classes count from here on.
	c.steps++
	if c.steps <= api.MaxNodes {
		return false
	}
	a, b = c.last(a), c.last(b)
	if a == b {
		return true
	}
	if c.next == nil {
		c.next = map[place]place{}
	}
	c.next[a] = b
	return false
}

// last returns the list of the class of p that has no next one, and shortens the way to it.
func (c *comparison) last(p place) place {
	for {
		next, is := c.next[p]
		if !is {
			return p
		}
		if further, is := c.next[next]; is {
			c.next[p] = further
		}
		p = next
	}
}
