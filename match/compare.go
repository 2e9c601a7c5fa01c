package match

import (
	"cmp"
	"math"
	"slices"

	"lispprover/api"
	"lispprover/object"
	"lispprover/term"
)

// Compare returns -1, 0 or 1 if a is before b, equal to b or after b in the term order.
func Compare(a, b api.Term) int {
	of, other := sizesOf(&a), sizesOf(&b)
	if order := slices.Compare(of[:], other[:]); order != 0 {
		return order
	}
	return compareStructures(&meetings{}, &a, &b)
}

// sizes are the number of occurrences of variables, the number of calls and the sum of the nodes of all constants.
type sizes [3]int

// sizesOf returns the sizes of t, each one at most as large as that of any term for which the document promises something.
func sizesOf(t *api.Term) sizes {
	if term.Nodes(*t) <= api.MaxNodes {
		return count(nil, t)
	}
	return count(map[place]sizes{}, t)
}

// count returns the sizes of t. If known is not nil, it keeps the sizes of lists of arguments, so that what lies at many positions, or within itself, is gone through only once.
func count(known map[place]sizes, t *api.Term) sizes {
	switch t.Kind {
	case api.Variable:
		return sizes{1, 0, 0}
	case api.Constant:
		return sizes{0, 0, object.Nodes(t.Value)}
	case api.Call:
		return sum(sizes{0, 1, 0}, countAll(known, t.Args))
	}
	return sizes{}
}

// countAll returns the sums of the sizes of the terms l.
func countAll(known map[place]sizes, l []api.Term) sizes {
	at := placeOf(l)
	total, is := known[at]
	if is {
		return total
	}
	if known != nil {
		known[at] = sizes{}
	}
	for i := range l {
		total = sum(total, count(known, &l[i]))
	}
	if known != nil {
		known[at] = total
	}
	return total
}

func sum(a, b sizes) sizes {
	for i, n := range b {
		a[i] = min(a[i]+n, math.MaxInt32)
	}
	return a
}

// compareStructures compares terms of the same sizes.
func compareStructures(met *meetings, a, b *api.Term) int {
	// The constants of package api have the order of the kinds.
	if order := cmp.Compare(a.Kind, b.Kind); order != 0 {
		return order
	}
	switch a.Kind {
	case api.Variable:
		return compareSymbols(a.Name, b.Name)
	case api.Constant:
		return object.Compare(a.Value, b.Value)
	case api.Call:
		return compareCalls(met, a, b)
	}
	return 0
}

func compareCalls(met *meetings, a, b *api.Term) int {
	if order := cmp.Or(compareSymbols(a.Name, b.Name), cmp.Compare(len(a.Args), len(b.Args))); order != 0 {
		return order
	}
	if met.before(placeOf(a.Args), placeOf(b.Args)) {
		return 0
	}
	for i := range a.Args {
		if order := compareStructures(met, &a.Args[i], &b.Args[i]); order != 0 {
			return order
		}
	}
	return 0
}

func compareSymbols(a, b api.Symbol) int {
	return object.Compare(object.Symbol(a), object.Symbol(b))
}
