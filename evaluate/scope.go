package evaluate

import "lispprover/api"

// scope gives each of its variables the value at the same position; the first one counts.
type scope struct {
	variables []api.Symbol
	values    []api.Object
}

// scopeOf returns the scope of these bindings.
func scopeOf(env []api.Binding) *scope {
	s := &scope{make([]api.Symbol, len(env)), make([]api.Object, len(env))}
	for i := range env {
		s.variables[i], s.values[i] = env[i].Var, env[i].Value
	}
	return s
}

// find returns the value of a variable, or nil if it has none.
func (s *scope) find(variable api.Symbol) *api.Object {
	for i := range s.variables {
		if s.variables[i] == variable {
			return &s.values[i]
		}
	}
	return nil
}
