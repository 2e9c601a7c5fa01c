package primitive

import (
	"math/big"
	"reflect"
	"regexp"
	"slices"
	"strings"
	"testing"

	"lispprover/api"
	"lispprover/object"
)

// P7.2 and P7.3 on all combinations of samples, against a model with other definitions

// samples are valid objects of which no two are equal.
func samples() []api.Object {
	longest, power := many("n", api.MaxName), "1"+many("0", api.MaxDigits-1)
	l := []api.Object{
		null(), truth(), atom("user", "nil"), atom("lisp", "car"), atom("user", "a b"), atom("a-1", "\x00\xff"), atom(longest, longest),
		pair(whole("1"), whole("2")), list(null()), list(str("a"), whole("1")), pair(list(truth()), ratio("1", "2")), list(list(list())), chain(749), chain(1499), left(750),
	}
	for _, s := range []string{"", "a", "ab", "nil", "lisp", "Lisp", "user", "1", "98", "\x00", "\xff\xc3\xa4", "a-1", "1a", longest, longest + "n", many("s", 100), many("t", 101), many("u", 199), many("v", api.MaxText)} {
		l = append(l, str(s))
	}
	for _, n := range []string{"0", "1", "2", "3", "7", "98", "99", "100", "199", "200", "255", "256", "257", "353", "999999999", "1000000000", "4294967296", "18446744073709551616", "1" + many("0", 49), "1" + many("0", 50), power, nines()} {
		l = append(l, whole(n))
		if n != "0" {
			l = append(l, whole("-"+n))
		}
	}
	for _, c := range [][2]string{{"1", "2"}, {"1", "3"}, {"7", "2"}, {"511", "2"}, {"1", nines()}, {"1", power}, {nines(), power}, {power, nines()}, {nines(), "2"}, {"1", "1" + many("0", 50)}} {
		l = append(l, ratio(c[0], c[1]), ratio("-"+c[0], c[1]))
	}
	return l
}

// value returns the number o, and 0 for other objects.
func value(o api.Object) *big.Rat {
	x := new(big.Rat)
	if o.Kind == api.KindNumber {
		x.SetString(o.Num + "/" + o.Den)
	}
	return x
}

func fromRat(x *big.Rat) api.Object {
	return ratio(x.Num().String(), x.Denom().String())
}

func whether(yes bool) api.Object {
	if yes {
		return truth()
	}
	return null()
}

// integerOf returns the value of an integer; -1 for other objects, and for what is negative or greater than 1000.
func integerOf(o api.Object) int {
	x := value(o)
	if o.Kind != api.KindNumber || !x.IsInt() || x.Sign() < 0 || x.Cmp(big.NewRat(1000, 1)) > 0 {
		return -1
	}
	return int(x.Num().Int64())
}

// asByte returns the string of a byte; the empty string for other objects.
func asByte(o api.Object) string {
	if n := integerOf(o); n >= 0 && n <= 255 {
		return string([]byte{byte(n)})
	}
	return ""
}

// index returns i as an index of the string s; -1 if it is none.
func index(s, i api.Object) int {
	if n := integerOf(i); s.Kind == api.KindString && n < len(s.Text) {
		return n
	}
	return -1
}

// floorOf rounds down by another way than number.Divide: Euclidean division leaves no negative rest.
func floorOf(x *big.Rat) api.Object {
	q, _ := new(big.Int).DivMod(x.Num(), x.Denom(), new(big.Int))
	return whole(q.String())
}

// inverse returns 1 / x, and 0 for 0.
func inverse(x *big.Rat) *big.Rat {
	if x.Sign() == 0 {
		return x
	}
	return new(big.Rat).Inv(x)
}

// part returns the element of a Pair with this index; nil if there is none.
func part(o api.Object, i int) api.Object {
	if o.Kind == api.KindCons {
		return o.Pair[i]
	}
	return null()
}

// modelOfOne returns the value of a primitive of one argument.
func modelOfOne(name string, o api.Object) api.Object {
	x := value(o)
	switch name {
	case "car":
		return part(o, 0)
	case "cdr":
		return part(o, 1)
	case "consp":
		return whether(len(o.Pair) > 0)
	case "symbolp":
		return whether(o.Sym.Name != "")
	case "stringp":
		return whether(o.Num == "" && o.Sym.Name == "" && len(o.Pair) == 0)
	case "rationalp":
		return whether(o.Num != "")
	case "integerp":
		return whether(o.Num != "" && x.IsInt())
	case "unary--":
		return fromRat(new(big.Rat).Neg(x))
	case "unary-/":
		return fromRat(inverse(x))
	case "numerator":
		return whole(x.Num().String())
	case "denominator":
		return whole(x.Denom().String())
	case "floor":
		return floorOf(x)
	case "symbol-name":
		return str(o.Sym.Name)
	case "symbol-package-name":
		return str(o.Sym.Package)
	case "string-length":
		return fromRat(big.NewRat(int64(len(o.Text)), 1))
	case "byte-string":
		return str(asByte(o))
	}
	panic(name)
}

// modelOfTwo returns the value of a primitive of two arguments.
func modelOfTwo(name string, a, b api.Object) api.Object {
	x, y := value(a), value(b)
	switch name {
	case "equal":
		return whether(reflect.DeepEqual(a, b))
	case "cons":
		return pair(a, b)
	case "binary-+":
		return fromRat(new(big.Rat).Add(x, y))
	case "binary-*":
		return fromRat(new(big.Rat).Mul(x, y))
	case "<":
		return whether(x.Cmp(y) < 0)
	case "intern":
		isPackage := regexp.MustCompile(`^[a-z][a-z0-9-]{0,39}$`).MatchString(b.Text)
		if isPackage && len(a.Text) >= 1 && len(a.Text) <= 40 {
			return atom(b.Text, a.Text)
		}
		return null()
	case "string-append":
		return str(strings.Join([]string{a.Text, b.Text}, ""))
	case "string-byte":
		if i := index(a, b); i >= 0 {
			return fromRat(big.NewRat(int64(a.Text[i]), 1))
		}
		return null()
	}
	panic(name)
}

// mayExceed reports whether ErrLimit is possible for a primitive.
func mayExceed(name string) bool {
	return slices.Contains([]string{"cons", "binary-+", "binary-*", "string-append"}, name)
}

// expectModel expects this value, or ErrLimit if it is not valid.
func expectModel(t *testing.T, name string, want api.Object, args ...api.Object) {
	t.Helper()
	if object.Valid(want) {
		expect(t, name, want, args...)
		return
	}
	if !mayExceed(name) {
		t.Errorf("%s exceeds a limit", name)
	}
	expectLimit(t, name, args...)
}

func TestSamples(t *testing.T) {
	l := samples()
	for i, o := range l {
		if !object.Valid(o) {
			t.Errorf("%s is not valid", show(o))
		}
		for _, p := range l[:i] {
			if reflect.DeepEqual(o, p) {
				t.Errorf("%s is there twice", show(o))
			}
		}
	}
}

func TestModel(t *testing.T) {
	l := samples()
	for _, r := range rows() {
		switch r.arity {
		case 1:
			for _, o := range l {
				expectModel(t, r.name, modelOfOne(r.name, o), o)
			}
		case 2:
			for _, a := range l {
				for _, b := range l {
					expectModel(t, r.name, modelOfTwo(r.name, a, b), a, b)
				}
			}
		}
	}
}

func TestModelOfIf(t *testing.T) {
	l := samples()
	for i, o := range l {
		for j := range l {
			k := (i*7 + j*3 + 1) % len(l)
			want := l[j]
			if reflect.DeepEqual(o, null()) {
				want = l[k]
			}
			expect(t, "if", want, o, l[j], l[k])
		}
	}
}

// TestInternAndNames: interning the names of a symbol gives the symbol.
func TestInternAndNames(t *testing.T) {
	for _, o := range samples() {
		if o.Kind != api.KindSymbol {
			continue
		}
		name, _ := Apply(lisp("symbol-name"), o)
		pack, _ := Apply(lisp("symbol-package-name"), o)
		expect(t, "intern", o, name, pack)
	}
}

// TestResultsOfValidArguments: a valid object and OK, or ErrLimit (P7.3).
func TestResultsOfValidArguments(t *testing.T) {
	l, limits := samples(), map[string]int{}
	check := func(name string, args ...api.Object) {
		value, err := Apply(lisp(name), args...)
		switch {
		case err == api.ErrLimit && mayExceed(name):
			limits[name]++
		case err != api.OK || !object.Valid(value):
			t.Errorf("Apply(%s, %s): %s, %d", name, show(args...), show(value), err)
		}
	}
	for _, r := range rows() {
		for i, a := range l {
			if r.arity == 1 {
				check(r.name, a)
				continue
			}
			for j, b := range l {
				check(r.name, []api.Object{a, b, l[(i+j)%len(l)]}[:r.arity]...)
			}
		}
	}
	for _, r := range rows() {
		if mayExceed(r.name) && limits[r.name] < 20 {
			t.Errorf("%s exceeded a limit only %d times", r.name, limits[r.name])
		}
	}
}
