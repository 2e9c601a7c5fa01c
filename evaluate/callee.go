package evaluate

import (
	"lispprover/api"
	"lispprover/primitive"
	"lispprover/world"
)

// callee is what the calls of a symbol call.
type callee struct {
	err         api.Errno // why it cannot be called
	arity       int
	isIf        bool
	isPrimitive bool
	params      []api.Symbol // of a function of the world
	body        api.Term
}

// callee returns what the calls of f call. It is looked up only once, since a world is gone through for that.
func (e *evaluator) callee(f api.Symbol) *callee {
	c := e.callees[f]
	if c == nil {
		c = lookUp(e.world, f)
		e.callees[f] = c
	}
	return c
}

// lookUp returns what the calls of f call in w.
func lookUp(w []api.Entry, f api.Symbol) *callee {
	arity, is := world.Arity(w, f)
	if !is {
		return &callee{err: api.ErrFunction}
	}
	c := &callee{arity: arity, isIf: f == api.Symbol{Package: "lisp", Name: "if"}}
	_, c.isPrimitive = primitive.Arity(f)
	function, is := world.Function(w, f)
	if is && function.Class != api.Defined {
		c.err = api.ErrExecutable
	}
	c.params, c.body = function.Params, function.Body
	return c
}

// check returns the error of a call with this number of arguments, or OK.
func (c *callee) check(args int) api.Errno {
	if c.err != api.ErrFunction && args != c.arity {
		return api.ErrArity
	}
	return c.err
}
