package primitive

import (
	"reflect"
	"strconv"
	"strings"
	"testing"

	"lispprover/api"
)

func atom(pack, name string) api.Object {
	return api.Object{Kind: api.KindSymbol, Sym: api.Symbol{Package: pack, Name: name}}
}

func null() api.Object {
	return atom("lisp", "nil")
}

func truth() api.Object {
	return atom("lisp", "t")
}

func ratio(n, d string) api.Object {
	return api.Object{Kind: api.KindNumber, Num: n, Den: d}
}

func whole(n string) api.Object {
	return ratio(n, "1")
}

func str(s string) api.Object {
	return api.Object{Kind: api.KindString, Text: s}
}

func pair(l ...api.Object) api.Object {
	return api.Object{Kind: api.KindCons, Pair: l}
}

// list returns the proper list of these objects.
func list(l ...api.Object) api.Object {
	end := null()
	for i := range l {
		end = pair(l[len(l)-1-i], end)
	}
	return end
}

// chain returns a list of n times 1; it has 2n + 1 nodes.
func chain(n int) api.Object {
	end := null()
	for range n {
		end = pair(whole("1"), end)
	}
	return end
}

// left returns an object that is nested n levels deep in its car; it has 2n + 1 nodes.
func left(n int) api.Object {
	o := str("end")
	for range n {
		o = pair(o, whole("-1"))
	}
	return o
}

func many(s string, n int) string {
	return strings.Repeat(s, n)
}

// nines is the greatest valid integer.
func nines() string {
	return many("9", api.MaxDigits)
}

func expect(t *testing.T, name string, want api.Object, args ...api.Object) {
	t.Helper()
	if got, err := Apply(lisp(name), args...); err != api.OK || !reflect.DeepEqual(got, want) {
		t.Errorf("Apply(%s, %s): %s, %d, want %s", name, show(args...), show(got), err, show(want))
	}
}

func expectError(t *testing.T, f api.Symbol, want api.Errno, args ...api.Object) {
	t.Helper()
	if got, err := Apply(f, args...); err != want || !reflect.DeepEqual(got, api.Object{}) {
		t.Errorf("Apply(%v, %s): %s, %d, want %d", f, show(args...), show(got), err, want)
	}
}

func expectLimit(t *testing.T, name string, args ...api.Object) {
	t.Helper()
	expectError(t, lisp(name), api.ErrLimit, args...)
}

func expectGuard(t *testing.T, name string, want bool, args ...api.Object) {
	t.Helper()
	if got := Guard(lisp(name), args...); got != want {
		t.Errorf("Guard(%s, %s): %v", name, show(args...), got)
	}
}

// show returns a text for an object, or for several, that is good enough for a message.
func show(l ...api.Object) string {
	var texts []string
	for _, o := range l {
		texts = append(texts, shown(o, 6))
	}
	return strings.Join(texts, ", ")
}

// shown returns the text of an object; depth keeps it from going through one without an end.
func shown(o api.Object, depth int) string {
	switch {
	case depth == 0:
		return ".."
	case o.Kind == api.KindNumber:
		return o.Num + "/" + o.Den
	case o.Kind == api.KindString:
		return strconv.Quote(o.Text)
	case o.Kind == api.KindSymbol:
		return o.Sym.Package + "::" + strconv.Quote(o.Sym.Name)
	case len(o.Pair) == 2:
		return "(" + shown(o.Pair[0], depth-1) + " . " + shown(o.Pair[1], depth-1) + ")"
	}
	return "?"
}
