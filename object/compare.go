package object

import (
	"cmp"
	"strings"

	"lispprover/api"
)

// Equal reports whether all fields of a and b are equal, Pair element by element.
func Equal(a, b api.Object) bool {
	c := comparison{exact: true}
	return c.order(&a, &b) == 0
}

// Compare returns -1, 0 or 1 if a is before b, equal to b or after b in the order of all objects: numbers, strings, symbols, conses.
func Compare(a, b api.Object) int {
	c := comparison{}
	return c.order(&a, &b)
}

// haveSameFields does not regard Pair.
func haveSameFields(a, b *api.Object) bool {
	return a.Kind == b.Kind && a.Num == b.Num && a.Den == b.Den && a.Sym == b.Sym && a.Text == b.Text
}

// compareFields compares a and b by their kinds and their fields, not regarding Pair.
func compareFields(a, b *api.Object) int {
	if order := cmp.Compare(rank(a.Kind), rank(b.Kind)); order != 0 {
		return order
	}
	switch a.Kind {
	case api.KindNumber:
		return compareNumbers(*a, *b)
	case api.KindString:
		return strings.Compare(a.Text, b.Text)
	case api.KindSymbol:
		return cmp.Or(strings.Compare(a.Sym.Name, b.Sym.Name), strings.Compare(a.Sym.Package, b.Sym.Package))
	}
	return 0
}

// rank returns the position of a kind in the order of all objects.
func rank(kind int) int {
	switch kind {
	case api.KindNumber:
		return 1
	case api.KindString:
		return 2
	case api.KindSymbol:
		return 3
	case api.KindCons:
		return 4
	}
	return 0
}

// comparison goes through two objects at once, in order, until it finds a difference.
type comparison struct {
	exact bool // all fields count, not only those that decide the order of valid objects
	steps int
	met   map[meeting]bool
}

// meeting is a Pair of the one object and a Pair of the other one, both of this length, that were compared with each other.
type meeting struct {
	a, b   *api.Object
	length int
}

// order returns the first difference between a and b, or 0 if there is none.
func (c *comparison) order(a, b *api.Object) int {
	for {
		if order := c.orderWithoutPairs(a, b); order != 0 {
			return order
		}
		if order := cmp.Compare(len(a.Pair), len(b.Pair)); order != 0 {
			return order
		}
		if c.isSettled(a.Pair, b.Pair) {
			return 0
		}
		last := len(a.Pair) - 1
		for i := range last {
			if order := c.order(&a.Pair[i], &b.Pair[i]); order != 0 {
				return order
			}
		}
		a, b = &a.Pair[last], &b.Pair[last]
	}
}

func (c *comparison) orderWithoutPairs(a, b *api.Object) int {
	if !c.exact {
		return compareFields(a, b)
	}
	if haveSameFields(a, b) {
		return 0
	}
	return 1
}

// isSettled reports whether there is nothing to compare in two Pairs of the same length: they are empty, they are the same memory, or they have met before. (A difference would have ended the comparison then.)
func (c *comparison) isSettled(a, b []api.Object) bool {
	if len(a) == 0 || &a[0] == &b[0] {
		return true
	}
	// A valid object does not have so many nodes. One that is not valid might be gone through for ever, so the meetings count from here on.
	c.steps++
	if c.steps <= api.MaxNodes {
		return false
	}
	if c.met == nil {
		c.met = map[meeting]bool{}
	}
	m := meeting{&a[0], &b[0], len(a)}
	if c.met[m] {
		return true
	}
	c.met[m] = true
	return false
}
