package primitive

import (
	"strconv"

	"lispprover/api"
	"lispprover/number"
	"lispprover/object"
	"lispprover/symbol"
)

// The functions here return the values of the primitives; they may exceed the limits.

func choice(args []api.Object) api.Object {
	if object.IsNil(args[0]) {
		return args[2]
	}
	return args[1]
}

// answer returns t or nil.
func answer(yes bool) api.Object {
	if yes {
		return object.T()
	}
	return object.Nil()
}

func areEqual(args []api.Object) api.Object {
	return answer(object.Equal(args[0], args[1]))
}

func cons(args []api.Object) api.Object {
	return object.Cons(args[0], args[1])
}

// hasParts reports whether o has a car and a cdr; a cons that is not valid may have none.
func hasParts(o api.Object) bool {
	return o.Kind == api.KindCons && len(o.Pair) == 2
}

func car(args []api.Object) api.Object {
	if !hasParts(args[0]) {
		return object.Nil()
	}
	return args[0].Pair[0]
}

func cdr(args []api.Object) api.Object {
	if !hasParts(args[0]) {
		return object.Nil()
	}
	return args[0].Pair[1]
}

func consp(args []api.Object) api.Object {
	return answer(args[0].Kind == api.KindCons)
}

func symbolp(args []api.Object) api.Object {
	return answer(args[0].Kind == api.KindSymbol)
}

func stringp(args []api.Object) api.Object {
	return answer(args[0].Kind == api.KindString)
}

func rationalp(args []api.Object) api.Object {
	return answer(args[0].Kind == api.KindNumber)
}

func integerp(args []api.Object) api.Object {
	return answer(object.IsInteger(args[0]))
}

func sum(args []api.Object) api.Object {
	return object.Sum(args[0], args[1])
}

func product(args []api.Object) api.Object {
	return object.Product(args[0], args[1])
}

func opposite(args []api.Object) api.Object {
	return object.Opposite(args[0])
}

func reciprocal(args []api.Object) api.Object {
	return object.Reciprocal(args[0])
}

func isLess(args []api.Object) api.Object {
	return answer(object.Less(args[0], args[1]))
}

// fraction returns the numerator and the denominator of o, treated as a number.
func fraction(o api.Object) (string, string) {
	if o.Kind != api.KindNumber {
		return "0", "1"
	}
	return o.Num, o.Den
}

// integer returns the integer with this decimal.
func integer(decimal string) api.Object {
	return object.Rational(decimal, "1")
}

func numerator(args []api.Object) api.Object {
	num, _ := fraction(args[0])
	return integer(num)
}

func denominator(args []api.Object) api.Object {
	_, den := fraction(args[0])
	return integer(den)
}

func floor(args []api.Object) api.Object {
	quotient, _ := number.Divide(fraction(args[0]))
	return integer(quotient)
}

func symbolName(args []api.Object) api.Object {
	if args[0].Kind != api.KindSymbol {
		return object.Text("")
	}
	return object.Text(args[0].Sym.Name)
}

func symbolPackageName(args []api.Object) api.Object {
	if args[0].Kind != api.KindSymbol {
		return object.Text("")
	}
	return object.Text(args[0].Sym.Package)
}

func intern(args []api.Object) api.Object {
	s := api.Symbol{Package: args[1].Text, Name: args[0].Text}
	if !areStrings(args) || !symbol.Valid(s) {
		return object.Nil()
	}
	return object.Symbol(s)
}

// text returns the bytes of o, treated as a string.
func text(o api.Object) string {
	if o.Kind != api.KindString {
		return ""
	}
	return o.Text
}

func stringAppend(args []api.Object) api.Object {
	return object.Text(text(args[0]) + text(args[1]))
}

func stringLength(args []api.Object) api.Object {
	return object.Int(len(text(args[0])))
}

// below returns the value of an integer from 0 to limit - 1, and true; false for any other object.
func below(limit int, o api.Object) (int, bool) {
	if !object.IsInteger(o) {
		return 0, false
	}
	n, err := strconv.Atoi(o.Num)
	if err != nil || n < 0 || n >= limit {
		return 0, false
	}
	return n, true
}

func stringByte(args []api.Object) api.Object {
	s := text(args[0])
	i, is := below(len(s), args[1])
	if !is {
		return object.Nil()
	}
	return object.Int(int(s[i]))
}

func byteString(args []api.Object) api.Object {
	n, is := below(256, args[0])
	if !is {
		return object.Text("")
	}
	return object.Text(string([]byte{byte(n)}))
}
