package ordinal

import (
	"lispprover/api"
	"lispprover/object"
)

// Power returns w^e * c + rest and true, if that is an ordinal; otherwise false.
func Power(e, c, rest api.Object) (api.Object, bool) {
	o := power(e, c, rest)
	if !Valid(o) {
		return api.Object{}, false
	}
	return o, true
}

func power(e, c, rest api.Object) api.Object {
	return object.Cons(object.Cons(e, c), rest)
}

// withinLimits returns o and true if o is a valid object; otherwise false.
func withinLimits(o api.Object) (api.Object, bool) {
	if !object.Valid(o) {
		return api.Object{}, false
	}
	return o, true
}

// Add returns the sum of two ordinals and true; false if it is not a valid object.
func Add(a, b api.Object) (api.Object, bool) {
	if !Valid(a) || !Valid(b) {
		return api.Object{}, false
	}
	return withinLimits(sum(a, b))
}

// sum returns a + b.
func sum(a, b api.Object) api.Object {
	if isZero(b) {
		return a
	}
	ae, ac, aRest := parts(a)
	be, bc, bRest := parts(b)
	switch order := compare(ae, be); {
	case order < 0:
		return b
	case order > 0:
		return power(ae, ac, sum(aRest, b))
	case isFinite(a):
		return object.Sum(a, b)
	}
	return power(ae, object.Sum(ac, bc), bRest)
}

// Multiply returns the product of two ordinals and true; false if it, or a part of it, is not a valid object.
func Multiply(a, b api.Object) (api.Object, bool) {
	if !Valid(a) || !Valid(b) {
		return api.Object{}, false
	}
	o, ok := product(a, b, api.MaxNodes)
	if !ok {
		return api.Object{}, false
	}
	// All sums and products on the way to o are parts of it, so they are checked with it.
	return withinLimits(o)
}

// product returns a * b and true; false if its exponents alone have more nodes than there is room for. (Every part of b may add as many nodes as a has, so a million of them could be built in vain.)
func product(a, b api.Object, room int) (api.Object, bool) {
	switch {
	case room < 0:
		return api.Object{}, false
	case isZero(a) || isZero(b):
		return object.Int(0), true
	case isFinite(b):
		return multiple(a, b), true
	}
	ae, _, _ := parts(a)
	be, bc, bRest := parts(b)
	e := sum(ae, be)
	rest, ok := product(a, bRest, room-object.Nodes(e))
	if !ok {
		return api.Object{}, false
	}
	return power(e, bc, rest), true
}

// multiple returns a * n, where a is not 0, and n is finite and not 0.
func multiple(a, n api.Object) api.Object {
	if isFinite(a) {
		return object.Product(a, n)
	}
	e, c, rest := parts(a)
	return power(e, object.Product(c, n), rest)
}
