package term

import (
	"lispprover/api"
	"lispprover/object"
	"lispprover/symbol"
)

// Valid reports whether t is valid.
func Valid(t api.Term) bool {
	// Counting first keeps isWellFormed from going through a term without an end.
	return Nodes(t) <= api.MaxNodes && Depth(t) <= api.MaxDepth && isWellFormed(&t)
}

// isWellFormed reports whether all fields of t and of its subterms are as in a valid term.
func isWellFormed(t *api.Term) bool {
	switch t.Kind {
	case api.Variable:
		return isVariable(t.Name) && isZero(t.Value) && len(t.Args) == 0
	case api.Constant:
		return t.Name == api.Symbol{} && object.Valid(t.Value) && len(t.Args) == 0
	case api.Call:
		return symbol.Valid(t.Name) && isZero(t.Value) && len(t.Args) <= api.MaxParams && areWellFormed(t.Args)
	}
	return false
}

func areWellFormed(l []api.Term) bool {
	for i := range l {
		if !isWellFormed(&l[i]) {
			return false
		}
	}
	return true
}

// isVariable reports whether s is the name of a variable.
func isVariable(s api.Symbol) bool {
	return symbol.Valid(s) && s != lisp("nil") && s != lisp("t")
}

func isZero(o api.Object) bool {
	return object.Equal(o, api.Object{})
}

// Nodes returns the number of nodes of t, but at most MaxNodes + 1.
func Nodes(t api.Term) int {
	return countNodes(&t, 0)
}

// isLarge reports whether t has more nodes than a valid term.
func isLarge(t *api.Term) bool {
	return countNodes(t, 0) > api.MaxNodes
}

// countNodes returns n, which is at most MaxNodes, plus the number of nodes of t, but at most MaxNodes + 1.
func countNodes(t *api.Term, n int) int {
	if t.Kind == api.Constant {
		return min(n+object.Nodes(t.Value), api.MaxNodes+1)
	}
	n++
	if t.Kind != api.Call {
		return n
	}
	for i := range t.Args {
		if n > api.MaxNodes {
			break
		}
		n = countNodes(&t.Args[i], n)
	}
	return n
}

// Depth returns the depth of t, but at most MaxDepth + 1.
func Depth(t api.Term) int {
	// A list of arguments that lies within itself is deeper than any limit.
	m := memoryFor[place](&t, api.MaxDepth)
	return min(depth(m, &t), api.MaxDepth+1)
}

func depth(m *memory[place, int], t *api.Term) int {
	if t.Kind != api.Call {
		return 1
	}
	return 1 + m.recall(placeOf(t.Args), func() int {
		deepest := 0
		for i := range t.Args {
			deepest = max(deepest, depth(m, &t.Args[i]))
		}
		return deepest
	})
}
