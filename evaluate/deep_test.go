package evaluate

import (
	"math"
	"runtime/debug"
	"testing"

	"lispprover/api"
	"lispprover/object"
)

// Evaluations that wait for each other, far more of them than MaxSteps

// downEnds are functions of n that call themselves n times, each within an argument, and then have a value or an error.
func downEnds() []api.Entry {
	var w []api.Entry
	for name, end := range map[string]string{"value": "'(end)", "unbound": "x", "unknown": "(unknown)", "arity": "(car)", "abstract": "(g '1)", "limit": "(string-append s s)", "loop": "(loop '1)"} {
		w = append(w, defun("to-"+name+" n s", "(if (< n '1) "+end+" (id (to-"+name+" (binary-+ n '-1) s)))"), defun("in-"+name+" n s", "(if (< n '1) "+end+" (car (cons (in-"+name+" (binary-+ n '-1) s) '1)))"), defun("if-"+name+" n s", "(if (< n '1) "+end+" (if (if-"+name+" (binary-+ n '-1) s) '(end) '1))"))
	}
	return append(base(), w...)
}

func TestDeepRecursion(t *testing.T) {
	w := downEnds()
	ends := map[string]outcome{"value": ok("(end)", 0), "unbound": fails(api.ErrUnbound, 0), "unknown": fails(api.ErrFunction, 1), "arity": fails(api.ErrArity, 1), "abstract": fails(api.ErrExecutable, 1), "limit": fails(api.ErrLimit, 1)}
	s := object.Text(string(make([]byte, 101)))
	for name, want := range ends {
		// The call, if and < are the steps of the end; a level has id, car and cons, or a second if, and + besides.
		for begin, level := range map[string]int{"to-": 5, "in-": 6, "if-": 5} {
			for _, n := range []int{3, 1000, maxDepth + 11} {
				if n > maxDepth && begin != "if-" {
					continue
				}
				want := outcome{want.value, want.steps + 3 + level*n, want.err}
				f := ofApply(w, sym(begin+name), []api.Object{object.Int(n), s})
				value, steps, err := f(want.steps - 1)
				expectFailure(t, begin+name+" with a step less", value, steps, err, api.ErrSteps)
				value, steps, err = f(want.steps)
				if want.err != api.OK {
					expectFailure(t, begin+name, value, steps, err, want.err)
				} else {
					expectValue(t, begin+name, value, steps, err, want)
				}
			}
		}
	}
}

// TestAroundTheDepthOfAStack has every depth next to those at which a further stack begins.
func TestAroundTheDepthOfAStack(t *testing.T) {
	w := append(base(), defun("cars n x", "(if (< n '1) x (car (cars (binary-+ n '-1) x)))"))
	for _, n := range []int{maxDepth - 2, maxDepth - 1, maxDepth, maxDepth + 1, 2*maxDepth - 1, 2 * maxDepth, 2*maxDepth + 1} {
		value, steps, err := Apply(w, sym("cars"), []api.Object{object.Int(n), object.Int(1)}, math.MaxInt)
		expectValue(t, "a recursion", value, steps, err, ok("nil", 5*n+3))
	}
	for n := maxDepth - 2; n <= maxDepth+2; n++ {
		value, steps, err := Term(nil, nest("car", n, tm("x")), bindings("x 1"), n)
		expectValue(t, "a nest", value, steps, err, ok("nil", n))
		value, steps, err = Term(nil, nest("car", n, tm("y")), bindings("x 1"), n)
		expectFailure(t, "a nest around an error", value, steps, err, api.ErrUnbound)
		value, steps, err = Term(nil, nest("car", n, tm("x")), bindings("x 1"), n-1)
		expectFailure(t, "a nest with a step less", value, steps, err, api.ErrSteps)
	}
}

// TestSmallStacks: a stack of Go would not have room for all evaluations, even if it were as large as is allowed on small machines.
func TestSmallStacks(t *testing.T) {
	defer debug.SetMaxStack(debug.SetMaxStack(1 << 26))
	w := append(base(), defun("tests x", "(if (tests x) x x)"))
	for _, name := range []string{"sink", "tests"} {
		value, steps, err := Apply(w, sym(name), []api.Object{object.Int(1)}, 1000000)
		expectFailure(t, "a recursion without an end", value, steps, err, api.ErrSteps)
	}
	value, steps, err := Apply(w, sym("down"), []api.Object{object.Int(300000)}, math.MaxInt)
	expectValue(t, "a recursion", value, steps, err, ok("300000", 1500003))
}

// TestLongLoops: a call that takes the place of another one needs no room.
func TestLongLoops(t *testing.T) {
	value, steps, err := Apply(base(), sym("sum"), []api.Object{object.Int(200000), object.Int(0)}, math.MaxInt)
	expectValue(t, "a sum", value, steps, err, ok("20000100000", 1000003))
	value, steps, err = Apply(base(), sym("loop"), []api.Object{object.Int(0)}, 2000000)
	expectFailure(t, "a loop", value, steps, err, api.ErrSteps)
}
