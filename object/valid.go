package object

import (
	"lispprover/api"
	"lispprover/number"
)

// Valid reports whether o is valid.
func Valid(o api.Object) bool {
	// Counting first keeps isWellFormed from going through an object without an end.
	return Nodes(o) <= api.MaxNodes && isWellFormed(&o)
}

// Nodes returns the number of nodes of o, but at most MaxNodes + 1.
func Nodes(o api.Object) int {
	return countNodes(&o, 0)
}

// countNodes returns n plus the number of nodes of o, but at most MaxNodes + 1.
func countNodes(o *api.Object, n int) int {
	for n <= api.MaxNodes {
		n++
		if len(o.Pair) != 2 {
			return n
		}
		n = countNodes(&o.Pair[0], n)
		o = &o.Pair[1]
	}
	return n
}

// isWellFormed reports whether all fields of o and of its nodes are as in a valid object.
func isWellFormed(o *api.Object) bool {
	switch o.Kind {
	case api.KindNumber:
		return hasOnly(o, api.Object{Num: o.Num, Den: o.Den}) && isFraction(o.Num, o.Den)
	case api.KindSymbol:
		return hasOnly(o, api.Object{Sym: o.Sym}) && isPackage(o.Sym.Package) && isName(o.Sym.Name)
	case api.KindString:
		return hasOnly(o, api.Object{Text: o.Text}) && len(o.Text) <= api.MaxText
	case api.KindCons:
		return hasOnly(o, api.Object{Pair: o.Pair}) && len(o.Pair) == 2 && isWellFormed(&o.Pair[0]) && isWellFormed(&o.Pair[1])
	}
	return false
}

// hasOnly reports whether o has no fields but its kind and these.
func hasOnly(o *api.Object, fields api.Object) bool {
	fields.Kind = o.Kind
	return len(o.Pair) == len(fields.Pair) && haveSameFields(o, &fields)
}

// isFraction reports whether num / den is in lowest terms and within the limits.
func isFraction(num, den string) bool {
	if !isShortDecimal(num) || !isShortDecimal(den) {
		return false
	}
	return den == "1" || number.Compare(den, "0") > 0 && number.Gcd(num, den) == "1"
}

func isShortDecimal(s string) bool {
	return number.Valid(s) && number.Digits(s) <= api.MaxDigits
}

// isName reports whether s has a length that a name may have.
func isName(s string) bool {
	return len(s) >= 1 && len(s) <= api.MaxName
}

// isPackage reports whether s is a package name.
func isPackage(s string) bool {
	if !isName(s) || !isLetter(s[0]) {
		return false
	}
	for i := range len(s) {
		if !isLetter(s[i]) && !isDigit(s[i]) && s[i] != '-' {
			return false
		}
	}
	return true
}

func isLetter(c byte) bool {
	return c >= 'a' && c <= 'z'
}

func isDigit(c byte) bool {
	return c >= '0' && c <= '9'
}
