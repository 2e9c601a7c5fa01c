package object

import (
	"lispprover/api"
	"lispprover/number"
)

// asNumber returns o if it is a number, and 0 otherwise.
func asNumber(o api.Object) api.Object {
	if o.Kind != api.KindNumber {
		return Int(0)
	}
	return o
}

// Sum returns a + b, treated as numbers.
func Sum(a, b api.Object) api.Object {
	a, b = asNumber(a), asNumber(b)
	if a.Den == b.Den {
		return Rational(number.Add(a.Num, b.Num), a.Den)
	}
	num := number.Add(number.Multiply(a.Num, b.Den), number.Multiply(b.Num, a.Den))
	return Rational(num, number.Multiply(a.Den, b.Den))
}

// Product returns a * b, treated as numbers.
func Product(a, b api.Object) api.Object {
	a, b = asNumber(a), asNumber(b)
	return Rational(number.Multiply(a.Num, b.Num), number.Multiply(a.Den, b.Den))
}

// Opposite returns -a, treated as a number.
func Opposite(a api.Object) api.Object {
	a = asNumber(a)
	return Rational(number.Negate(a.Num), a.Den)
}

// Reciprocal returns 1 / a, treated as a number, or 0 if a is 0.
func Reciprocal(a api.Object) api.Object {
	a = asNumber(a)
	return Rational(a.Den, a.Num)
}

// Less reports whether a is less than b, treated as numbers.
func Less(a, b api.Object) bool {
	return compareNumbers(asNumber(a), asNumber(b)) < 0
}

// compareNumbers returns -1, 0 or 1 if the number a is less than, equal to or greater than the number b.
func compareNumbers(a, b api.Object) int {
	if a.Den == b.Den {
		return number.Compare(a.Num, b.Num)
	}
	return number.Compare(number.Multiply(a.Num, b.Den), number.Multiply(b.Num, a.Den))
}
