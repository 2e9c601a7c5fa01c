package object

import (
	"math/big"
	"strings"
	"testing"

	"lispprover/api"
)

// fromRat returns the object with this value.
func fromRat(x *big.Rat) api.Object {
	return num(x.Num().String(), x.Denom().String())
}

// others are objects that are not numbers.
func others() []api.Object {
	return []api.Object{Nil(), T(), str(""), str("5"), sym("a", "b"), pair(num("1", "1"), num("2", "1")), chain(3)}
}

// operands are numbers around 0 and at the limits, and objects that are not numbers.
func operands() []api.Object {
	nines, power := strings.Repeat("9", api.MaxDigits), "1"+strings.Repeat("0", api.MaxDigits-1)
	l := others()
	for n := -7; n <= 7; n++ {
		for d := 1; d <= 6; d++ {
			l = append(l, fromRat(big.NewRat(int64(n), int64(d))))
		}
	}
	for _, c := range [][2]string{{nines, "1"}, {"1", nines}, {nines, power}, {power, nines}, {power, "1"}, {"1", power}, {"1000000007", "999999937"}, {"18446744073709551616", "9223372036854775807"}} {
		l = append(l, num(c[0], c[1]), num("-"+c[0], c[1]))
	}
	return l
}

// P2.4

func TestSumAndProductAndLess(t *testing.T) {
	for _, a := range operands() {
		for _, b := range operands() {
			what := "(" + show(a) + ", " + show(b) + ")"
			expect(t, "Sum"+what, Sum(a, b), fromRat(new(big.Rat).Add(rat(a), rat(b))))
			expect(t, "Product"+what, Product(a, b), fromRat(new(big.Rat).Mul(rat(a), rat(b))))
			if got := Less(a, b); got != (rat(a).Cmp(rat(b)) < 0) {
				t.Errorf("Less%s: %v", what, got)
			}
		}
	}
}

func TestOppositeAndReciprocal(t *testing.T) {
	for _, a := range operands() {
		expect(t, "Opposite("+show(a)+")", Opposite(a), fromRat(new(big.Rat).Neg(rat(a))))
		want := new(big.Rat)
		if rat(a).Sign() != 0 {
			want.Inv(rat(a))
		}
		expect(t, "Reciprocal("+show(a)+")", Reciprocal(a), fromRat(want))
	}
}

func TestArithmeticByHand(t *testing.T) {
	zero := num("0", "1")
	expect(t, "1/2 + 1/3", Sum(num("1", "2"), num("1", "3")), num("5", "6"))
	expect(t, "1/6 + 1/3", Sum(num("1", "6"), num("1", "3")), num("1", "2"))
	expect(t, "1/2 + 1/2", Sum(num("1", "2"), num("1", "2")), num("1", "1"))
	expect(t, "2 + -2", Sum(num("2", "1"), num("-2", "1")), zero)
	expect(t, "2/3 * -3/2", Product(num("2", "3"), num("-3", "2")), num("-1", "1"))
	expect(t, "0 * 1/3", Product(zero, num("1", "3")), zero)
	expect(t, "- 0", Opposite(zero), zero)
	expect(t, "- 2/3", Opposite(num("2", "3")), num("-2", "3"))
	expect(t, "1 / 0", Reciprocal(zero), zero)
	expect(t, "1 / -2/3", Reciprocal(num("-2", "3")), num("-3", "2"))
	expect(t, "1 / -5", Reciprocal(num("-5", "1")), num("-1", "5"))
	expect(t, "1 / 1", Reciprocal(num("1", "1")), num("1", "1"))
	for _, c := range []struct {
		a, b api.Object
		less bool
	}{
		{num("1", "3"), num("1", "2"), true}, {num("1", "2"), num("1", "3"), false}, {num("-1", "2"), num("-1", "3"), true}, {num("1", "2"), num("1", "2"), false},
		{num("9", "1"), num("10", "1"), true}, {num("-9", "1"), num("-10", "1"), false}, {num("-1", "7"), zero, true}, {zero, num("1", "7"), true},
	} {
		if Less(c.a, c.b) != c.less {
			t.Errorf("Less(%s, %s): %v", show(c.a), show(c.b), !c.less)
		}
	}
}

// TestArithmeticOfOthers: what is not a number counts as 0.
func TestArithmeticOfOthers(t *testing.T) {
	zero, half := num("0", "1"), num("1", "2")
	for _, o := range others() {
		expect(t, "Sum", Sum(o, half), half)
		expect(t, "Sum", Sum(half, o), half)
		expect(t, "Sum", Sum(o, o), zero)
		expect(t, "Product", Product(o, half), zero)
		expect(t, "Product", Product(half, o), zero)
		expect(t, "Opposite", Opposite(o), zero)
		expect(t, "Reciprocal", Reciprocal(o), zero)
		if !Less(o, half) || Less(half, o) || Less(o, zero) || Less(zero, o) || !Less(num("-1", "2"), o) || Less(o, T()) {
			t.Errorf("Less with %s", show(o))
		}
	}
}

// TestArithmeticBeyondTheLimit: results may have more digits than a valid number.
func TestArithmeticBeyondTheLimit(t *testing.T) {
	nines := strings.Repeat("9", api.MaxDigits)
	most, power := num(nines, "1"), "1"+strings.Repeat("0", api.MaxDigits)
	expect(t, "Sum", Sum(most, num("1", "1")), num(power, "1"))
	expect(t, "Product", Product(num("1", nines), num("1", nines)), num("1", strings.Repeat("9", api.MaxDigits-1)+"8"+strings.Repeat("0", api.MaxDigits-1)+"1"))
	expect(t, "Sum of results", Sum(num(power, "1"), num("-"+power, "1")), num("0", "1"))
	expect(t, "Opposite", Opposite(num(power, "3")), num("-"+power, "3"))
	expect(t, "Reciprocal", Reciprocal(num("-"+power, "3")), num("-3", power))
	expectValid(t, Sum(most, num("1", "1")), false)
	if !Less(most, num(power, "1")) || Less(num(power, "1"), most) {
		t.Error("Less beyond the limit")
	}
}
