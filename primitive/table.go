package primitive

import "lispprover/api"

// builtin is a primitive. Its functions are called with as many arguments as its arity says.
type builtin struct {
	name  string // in the package lisp
	arity int
	value func(args []api.Object) api.Object
	guard func(args []api.Object) bool
}

// table returns the primitives, in the order of the chapter. It is an array, since a slice would be allocated anew whenever a primitive is looked up.
func table() [25]builtin {
	return [...]builtin{
		{"if", 3, choice, anything},
		{"equal", 2, areEqual, anything},
		{"cons", 2, cons, anything},
		{"car", 1, car, isList},
		{"cdr", 1, cdr, isList},
		{"consp", 1, consp, anything},
		{"symbolp", 1, symbolp, anything},
		{"stringp", 1, stringp, anything},
		{"rationalp", 1, rationalp, anything},
		{"integerp", 1, integerp, anything},
		{"binary-+", 2, sum, areNumbers},
		{"binary-*", 2, product, areNumbers},
		{"unary--", 1, opposite, areNumbers},
		{"unary-/", 1, reciprocal, isDivisor},
		{"<", 2, isLess, areNumbers},
		{"numerator", 1, numerator, areNumbers},
		{"denominator", 1, denominator, areNumbers},
		{"floor", 1, floor, areNumbers},
		{"symbol-name", 1, symbolName, isSymbol},
		{"symbol-package-name", 1, symbolPackageName, isSymbol},
		{"intern", 2, intern, areStrings},
		{"string-append", 2, stringAppend, areStrings},
		{"string-length", 1, stringLength, areStrings},
		{"string-byte", 2, stringByte, isIndexed},
		{"byte-string", 1, byteString, isByte},
	}
}
