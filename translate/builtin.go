package translate

import (
	"lispprover/api"
	"lispprover/object"
)

// rules returns the expansion of the call of a built-in macro, and true; false if no rule matches.
type rules func(c *macroCall) (api.Object, bool)

// builtIn returns the rules of a built-in macro; nil if name is not the name of one.
func builtIn(name api.Symbol) rules {
	if name.Package != "lisp" {
		return nil
	}
	switch name.Name {
	case "list":
		return list
	case "list*":
		return listStar
	case "and":
		return and
	case "or":
		return or
	case "cond":
		return cond
	case "+":
		return sum
	case "*":
		return product
	case "-":
		return difference
	case "/":
		return quotient
	case "<=":
		return atMost
	case ">":
		return greater
	case ">=":
		return atLeast
	case "append":
		return appended
	}
	return nil
}

// call returns the list of the symbol with this name in the package lisp and of these forms.
func call(name string, forms ...api.Object) api.Object {
	return object.Cons(object.Symbol(lisp(name)), object.List(forms...))
}

// again returns the call of the same macro without its first argument form.
func (c *macroCall) again() api.Object {
	return object.Cons(object.Symbol(c.name), c.after(1))
}

func list(c *macroCall) (api.Object, bool) {
	if len(c.args) == 0 {
		return object.Nil(), true
	}
	return call("cons", c.args[0], c.again()), true
}

func listStar(c *macroCall) (api.Object, bool) {
	switch len(c.args) {
	case 0:
		return api.Object{}, false
	case 1:
		return c.args[0], true
	}
	return call("cons", c.args[0], c.again()), true
}

func and(c *macroCall) (api.Object, bool) {
	switch len(c.args) {
	case 0:
		return object.T(), true
	case 1:
		return c.args[0], true
	}
	return call("if", c.args[0], c.again(), object.Nil()), true
}

func or(c *macroCall) (api.Object, bool) {
	switch len(c.args) {
	case 0:
		return object.Nil(), true
	case 1:
		return c.args[0], true
	}
	return call("if", c.args[0], c.args[0], c.again()), true
}

func cond(c *macroCall) (api.Object, bool) {
	if len(c.args) == 0 {
		return object.Nil(), true
	}
	clause, proper := object.Items(c.args[0])
	if !proper || len(clause) != 2 {
		return api.Object{}, false
	}
	return call("if", clause[0], clause[1], c.again()), true
}

func sum(c *macroCall) (api.Object, bool) {
	return c.fold("binary-+", 0), true
}

func product(c *macroCall) (api.Object, bool) {
	return c.fold("binary-*", 1), true
}

// fold returns the expansion of a macro for a function with a neutral number.
func (c *macroCall) fold(function string, neutral int) api.Object {
	switch len(c.args) {
	case 0:
		return object.Int(neutral)
	case 1:
		return call(function, object.Int(neutral), c.args[0])
	case 2:
		return call(function, c.args[0], c.args[1])
	}
	return call(function, c.args[0], c.again())
}

func difference(c *macroCall) (api.Object, bool) {
	return c.invert("binary-+", "unary--")
}

func quotient(c *macroCall) (api.Object, bool) {
	return c.invert("binary-*", "unary-/")
}

// invert returns the expansion of a macro for a function and its inverse.
func (c *macroCall) invert(function, inverse string) (api.Object, bool) {
	switch len(c.args) {
	case 1:
		return call(inverse, c.args[0]), true
	case 2:
		return call(function, c.args[0], call(inverse, c.args[1])), true
	}
	return api.Object{}, false
}

func atMost(c *macroCall) (api.Object, bool) {
	if len(c.args) != 2 {
		return api.Object{}, false
	}
	return call("not", call("<", c.args[1], c.args[0])), true
}

func greater(c *macroCall) (api.Object, bool) {
	if len(c.args) != 2 {
		return api.Object{}, false
	}
	return call("<", c.args[1], c.args[0]), true
}

func atLeast(c *macroCall) (api.Object, bool) {
	if len(c.args) != 2 {
		return api.Object{}, false
	}
	return call("not", call("<", c.args[0], c.args[1])), true
}

func appended(c *macroCall) (api.Object, bool) {
	switch len(c.args) {
	case 0:
		return object.Nil(), true
	case 1:
		return c.args[0], true
	}
	return call("binary-append", c.args[0], c.again()), true
}
