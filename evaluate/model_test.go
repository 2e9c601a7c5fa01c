package evaluate

import (
	"math"
	"math/rand"
	"slices"
	"strconv"
	"strings"
	"testing"

	"lispprover/api"
	"lispprover/object"
	"lispprover/primitive"
	"lispprover/world"
)

// Random terms in random worlds against a model without recursion, and the consequences (P11.3)

// model evaluates a term with a stack of what is still to be done, the last first, and a stack of the values that were found.
type model struct {
	world  []api.Entry
	left   int
	taken  int
	todo   []func() api.Errno
	values []api.Object
}

// modelOutcome returns the outcome of an evaluation that takes no more than most steps; otherwise false.
func modelOutcome(w []api.Entry, t api.Term, env []api.Binding, most int) (outcome, bool) {
	m := &model{world: w}
	values := map[api.Symbol]api.Object{}
	for _, b := range slices.Backward(env) {
		values[b.Var] = b.Value
	}
	m.evaluate(t, values)
	for len(m.todo) > 0 {
		next := m.todo[len(m.todo)-1]
		m.todo = m.todo[:len(m.todo)-1]
		if err := next(); err != api.OK {
			return fails(err, m.taken), true
		}
		if m.taken > most {
			return outcome{}, false
		}
	}
	return gives(m.values[0], m.taken), true
}

func (m *model) do(f func() api.Errno) {
	m.todo = append(m.todo, f)
}

func (m *model) evaluate(t api.Term, env map[api.Symbol]api.Object) {
	m.do(func() api.Errno {
		if t.Kind == api.Call {
			m.taken++
			return m.call(t, env)
		}
		value, is := env[t.Name]
		if t.Kind == api.Constant {
			value, is = t.Value, true
		}
		if !is {
			return api.ErrUnbound
		}
		m.values = append(m.values, value)
		return api.OK
	})
}

// modelFunction returns the function f of w, which has no two with the same name.
func modelFunction(w []api.Entry, f api.Symbol) (api.Function, bool) {
	for _, e := range w {
		for _, function := range e.Functions {
			if function.Name == f && slices.Contains([]int{3, 5, 6, 7}, e.Kind) {
				return function, true
			}
		}
	}
	return api.Function{}, false
}

func (m *model) call(t api.Term, env map[api.Symbol]api.Object) api.Errno {
	function, isFunction := modelFunction(m.world, t.Name)
	isPrimitive := slices.Contains(primitive.Names(), t.Name)
	arity := len(function.Params)
	if isPrimitive {
		arity, _ = primitive.Arity(t.Name)
	}
	if !isFunction && !isPrimitive {
		return api.ErrFunction
	}
	if len(t.Args) != arity {
		return api.ErrArity
	}
	if isFunction && function.Class != api.Defined {
		return api.ErrExecutable
	}
	if t.Name == sym("if") {
		m.do(func() api.Errno {
			if slices.ContainsFunc(m.take(1), object.IsNil) {
				m.evaluate(t.Args[2], env)
			} else {
				m.evaluate(t.Args[1], env)
			}
			return api.OK
		})
		m.evaluate(t.Args[0], env)
		return api.OK
	}
	m.do(func() api.Errno { return m.finish(t.Name, function, isPrimitive, m.take(arity)) })
	for _, a := range slices.Backward(t.Args) {
		m.evaluate(a, env)
	}
	return api.OK
}

// take removes the last n values.
func (m *model) take(n int) []api.Object {
	l := slices.Clone(m.values[len(m.values)-n:])
	m.values = m.values[:len(m.values)-n]
	return l
}

func (m *model) finish(f api.Symbol, function api.Function, isPrimitive bool, args []api.Object) api.Errno {
	if isPrimitive {
		value, err := primitive.Apply(f, args...)
		m.values = append(m.values, value)
		return err
	}
	env := map[api.Symbol]api.Object{}
	for i, p := range function.Params {
		env[p] = args[i]
	}
	m.evaluate(function.Body, env)
	return api.OK
}

// maker makes worlds and terms of few names, so that most calls are possible.
type maker struct {
	*rand.Rand
	variables []api.Symbol
	constants []api.Object
	builtins  []string
	arities   map[string]int // of the functions of the world
	isWild    bool           // whether there are errors other than those of execution
}

func newMaker(seed int64) *maker {
	m := &maker{Rand: rand.New(rand.NewSource(seed)), variables: syms("x y z")}
	m.constants = append(objs(`nil t 0 1 -1/2 x "ab" (1 2 3) (a . b)`), object.Text(strings.Repeat("s", 120)), object.Text(strings.Repeat("t", 200)), object.Rational(strings.Repeat("7", 60), "2"), object.Int(math.MaxInt), chain(800))
	m.builtins = strings.Fields("if if if if cons cons car car cdr cdr cdr consp consp equal binary-+ binary-* binary-* < string-append string-append integerp")
	return m
}

// term returns a term over these variables.
func (m *maker) term(variables []api.Symbol, depth int) api.Term {
	if m.isWild && m.Intn(25) == 0 {
		variables = append(slices.Clone(variables), sym("unbound"))
	}
	if depth == 1 || m.Intn(6) == 0 {
		if len(variables) == 0 || m.Intn(4) == 0 {
			return constant(pick(m.Rand, m.constants))
		}
		return api.Term{Kind: api.Variable, Name: pick(m.Rand, variables)}
	}
	name, n := m.callee()
	if m.isWild && m.Intn(25) == 0 {
		n += 1 - 2*m.Intn(2)
	}
	t := call(name)
	for range n {
		t.Args = append(t.Args, m.term(variables, depth-1))
	}
	return t
}

// callee returns the name of a function, and its arity.
func (m *maker) callee() (string, int) {
	if m.isWild && m.Intn(25) == 0 {
		return pick(m.Rand, strings.Fields("unknown mac th quote a::car")), m.Intn(3)
	}
	if m.Intn(5) < 3 {
		name := pick(m.Rand, m.builtins)
		n, _ := primitive.Arity(sym(name))
		return name, n
	}
	name := "f" + strconv.Itoa(m.Intn(len(m.arities)))
	return name, m.arities[name]
}

// world returns entries with the functions f0, f1 and so on. All are of the Class Defined, unless the world is wild.
func (m *maker) world() []api.Entry {
	m.arities = map[string]int{}
	n := 3 + m.Intn(4)
	for i := range n {
		m.arities["f"+strconv.Itoa(i)] = m.Intn(4)
	}
	w := []api.Entry{{Kind: api.EntryLabel, Name: sym("here")}}
	for i := range n {
		name := "f" + strconv.Itoa(i)
		params := m.variables[:m.arities[name]]
		f := api.Function{Name: sym(name), Params: params, Class: api.Defined, Guard: tm("t"), Body: m.term(params, 2+m.Intn(3))}
		kind := pick(m.Rand, []int{api.EntryFunctions, api.EntryFunctions, api.EntryStobj})
		if m.isWild && m.Intn(6) == 0 {
			f.Class = pick(m.Rand, []int{api.Constrained, api.Choice, 0, 4})
			kind = pick(m.Rand, []int{api.EntryEncapsule, api.EntryChoice, api.EntryTheorem, 0, 11})
		}
		w = append(w, api.Entry{Kind: kind, Name: f.Name, Functions: []api.Function{f}, Local: []api.Entry{defun("unknown", "'1")}})
	}
	return w
}

func (m *maker) bindings() []api.Binding {
	var env []api.Binding
	for _, v := range m.variables {
		env = append(env, api.Binding{Var: v, Value: pick(m.Rand, m.constants)})
	}
	return append(env, api.Binding{Var: m.variables[0], Value: object.Int(99)})
}

// most is how many steps are tried on random terms.
const most = 400

func TestAgainstModel(t *testing.T) {
	m := newMaker(1)
	counts := map[api.Errno]int{}
	for i := range 15000 {
		m.isWild = i%3 > 0
		w := m.world()
		x, env := m.term(m.variables, 1+m.Intn(4)), m.bindings()
		want, ends := modelOutcome(w, x, env, most)
		if !ends {
			counts[api.ErrSteps]++
			value, steps, err := Term(w, x, env, most)
			expectFailure(t, "an evaluation that takes long", value, steps, err, api.ErrSteps)
			continue
		}
		counts[want.err]++
		expectOutcome(t, "a random term", ofTerm(w, x, env), want)
		if want.err == api.OK && !object.Valid(want.value) {
			t.Error("a value that is not valid")
		}
	}
	for _, err := range []api.Errno{api.OK, api.ErrUnbound, api.ErrSteps, api.ErrFunction, api.ErrArity, api.ErrExecutable, api.ErrLimit} {
		if counts[err] < 100 {
			t.Errorf("the error %d only %d times", err, counts[err])
		}
	}
}

// TestApplyIsTerm: Apply is Term of a call with constants.
func TestApplyIsTerm(t *testing.T) {
	m := newMaker(2)
	for i := range 10000 {
		m.isWild = i%2 > 0
		w := m.world()
		name, n := m.callee()
		if m.isWild && m.Intn(5) == 0 {
			n += m.Intn(3)
		}
		var args []api.Object
		for range n {
			args = append(args, pick(m.Rand, m.constants))
		}
		want, ends := modelOutcome(w, call(name, constants(args)...), nil, most)
		if ends {
			expectOutcome(t, "Apply", ofApply(w, sym(name), args), want)
		}
	}
}

// TestExtendedWorlds: what is added to a world does not change the values that there were.
func TestExtendedWorlds(t *testing.T) {
	m := newMaker(3)
	values := 0
	for range 5000 {
		w := m.world()
		x, env := m.term(m.variables, 1+m.Intn(4)), m.bindings()
		for n := range len(w) {
			value, steps, err := Term(w[:n], x, env, most)
			if err != api.OK {
				continue
			}
			values++
			again, stepsAgain, errAgain := Term(w, x, env, most)
			expectValue(t, "in a longer world", again, stepsAgain, errAgain, gives(value, steps))
		}
	}
	if values < 1000 {
		t.Errorf("only %d values", values)
	}
	w := base()
	for n := range w {
		for _, s := range []string{"(car (cons '1 '2))", "(id '1)", "(even '(1 2))", "(st-get '(1))", "(down '3)"} {
			value, steps, err := Term(w[:n], tm(s), nil, most)
			if err == api.OK {
				longer, extended := world.Extend(w[:n], api.Entry{Kind: api.EntryLabel, Name: sym("there")})
				again, stepsAgain, errAgain := Term(longer, tm(s), nil, most)
				expectValue(t, s, again, stepsAgain, errAgain+extended, gives(value, steps))
			}
		}
	}
}
