package primitive

import (
	"lispprover/api"
	"lispprover/object"
)

// The functions here are the guards of the primitives.

func anything([]api.Object) bool {
	return true
}

// areAll reports whether all arguments are of this kind.
func areAll(kind int, args []api.Object) bool {
	for _, o := range args {
		if o.Kind != kind {
			return false
		}
	}
	return true
}

func areNumbers(args []api.Object) bool {
	return areAll(api.KindNumber, args)
}

func areStrings(args []api.Object) bool {
	return areAll(api.KindString, args)
}

func isSymbol(args []api.Object) bool {
	return areAll(api.KindSymbol, args)
}

// isList reports whether the argument is a cons or nil.
func isList(args []api.Object) bool {
	return args[0].Kind == api.KindCons || object.IsNil(args[0])
}

// isDivisor reports whether the argument is a number other than 0.
func isDivisor(args []api.Object) bool {
	return areNumbers(args) && object.Compare(args[0], object.Int(0)) != 0
}

// isIndexed reports whether the first argument is a string, and the second one an index of it.
func isIndexed(args []api.Object) bool {
	_, is := below(len(text(args[0])), args[1])
	return is
}

// isByte reports whether the argument is an integer from 0 to 255.
func isByte(args []api.Object) bool {
	_, is := below(256, args[0])
	return is
}
