package number

import (
	"math"
	"math/big"
	"slices"
	"strconv"
	"strings"
	"testing"
)

// notDecimals are texts that count as 0.
var notDecimals = []string{
	"", "-", "-0", "+0", "00", "007", "-07", "+1", "--1", "1-", " 1", "1 ", "1a", "a", "0x1", "1_000", "1,000",
	"1.0", "1/2", "1e5", "\n1", "1\x00", "\xff", "٣", "−1", "/1", ":1", "1/", "1:", "0-", strings.Repeat("0", 50), "-" + strings.Repeat("0", 50) + "1",
}

// edges are decimals around the places where a length, a carry or a sign changes.
func edges() []string {
	l := []string{"0", strconv.Itoa(math.MinInt), strconv.Itoa(math.MaxInt), "9223372036854775808", "-9223372036854775809", "18446744073709551616"}
	for _, s := range []string{"1", "2", "3", "7", "9", "10", "11", "12", "18", "99", "100", "101", "255", "256", "999999999", "1000000000", "1000000001"} {
		l = append(l, s, "-"+s)
	}
	for _, n := range []int{19, 40, 100} {
		power, nines := "1"+strings.Repeat("0", n), strings.Repeat("9", n)
		l = append(l, power, "-"+power, nines, "-"+nines, power+"1")
	}
	return l
}

// generator yields the same digits in every run.
type generator uint64

func (g *generator) below(n int) int {
	*g = *g*6364136223846793005 + 1442695040888963407
	return int(uint64(*g)>>33) % n
}

// decimal returns a decimal of n digits; some have long runs of one digit, which make for long carries.
func (g *generator) decimal(n int) string {
	b := []byte{byte('1' + g.below(9))}
	run := g.below(4) == 0
	for len(b) < n {
		digit := byte('0' + g.below(10))
		if run {
			digit = "09"[g.below(2)]
		}
		b = append(b, slices.Repeat([]byte{digit}, 1+g.below(3)*len(b)%7)...)
	}
	sign := ""
	if g.below(2) == 0 {
		sign = "-"
	}
	return sign + string(b[:n])
}

func samples() []string {
	l := slices.Concat(edges(), notDecimals)
	g := generator(1)
	for n := 1; n <= 60; n++ {
		l = append(l, g.decimal(n))
	}
	return append(l, g.decimal(150), g.decimal(301), g.decimal(302))
}

// forPairs calls f for all pairs of samples.
func forPairs(f func(a, b string)) {
	l := samples()
	for _, a := range l {
		for _, b := range l {
			f(a, b)
		}
	}
}

// isDecimal decides by another way than Valid.
func isDecimal(s string) bool {
	x, ok := new(big.Int).SetString(s, 10)
	return ok && x.String() == s
}

// value is what a text stands for.
func value(s string) *big.Int {
	if !isDecimal(s) {
		return new(big.Int)
	}
	x, _ := new(big.Int).SetString(s, 10)
	return x
}

func expect(t *testing.T, call, got, want string) {
	t.Helper()
	if got != want {
		t.Errorf("%s: got %q, want %q", call, got, want)
	}
}

func call(name string, args ...string) string {
	return name + "(" + strings.Join(args, ", ") + ")"
}

// P1.1

func TestValid(t *testing.T) {
	for _, s := range edges() {
		if !Valid(s) {
			t.Errorf("Valid(%q) is false", s)
		}
	}
	for _, s := range notDecimals {
		if Valid(s) {
			t.Errorf("Valid(%q) is true", s)
		}
	}
	if s := strings.Repeat("12", 50000); !Valid(s) || !Valid("-"+s) || Valid(s+"x") || Valid("0"+s) {
		t.Error("Valid of many digits")
	}
}

func TestValidShortTexts(t *testing.T) {
	texts := []string{""}
	for range 4 {
		var longer []string
		for _, s := range texts {
			if Valid(s) != isDecimal(s) {
				t.Errorf("Valid(%q) is %v", s, Valid(s))
			}
			for _, c := range "-+0159/: x" {
				longer = append(longer, s+string(c))
			}
		}
		texts = longer
	}
}

func TestFromInt(t *testing.T) {
	for n, want := range map[int]string{
		0: "0", 1: "1", -1: "-1", 10: "10", -120: "-120", 999999999: "999999999", 1000000000: "1000000000",
		math.MaxInt: "9223372036854775807", math.MinInt: "-9223372036854775808",
	} {
		expect(t, "FromInt", FromInt(n), want)
	}
	g := generator(2)
	for range 1000 {
		n := g.below(1<<31)*g.below(1<<31) - 1<<60
		expect(t, "FromInt", FromInt(n), big.NewInt(int64(n)).String())
	}
}

func TestSmall(t *testing.T) {
	for _, s := range samples() {
		want, wantOK := int(value(s).Int64()), len(strings.TrimPrefix(value(s).String(), "-")) <= 9
		if !wantOK {
			want = 0
		}
		if n, ok := Small(s); n != want || ok != wantOK {
			t.Errorf("Small(%q): %d, %v", s, n, ok)
		}
	}
	for s, want := range map[string]int{"0": 0, "-5": -5, "999999999": 999999999, "-999999999": -999999999, "-0": 0, "007": 0, "x": 0} {
		if n, ok := Small(s); n != want || !ok {
			t.Errorf("Small(%q): %d, %v", s, n, ok)
		}
	}
	for _, s := range []string{"1000000000", "-1000000000", "18446744073709551617"} {
		if n, ok := Small(s); n != 0 || ok {
			t.Errorf("Small(%q): %d, %v", s, n, ok)
		}
	}
}

func TestDigits(t *testing.T) {
	for _, s := range samples() {
		if want := len(strings.TrimPrefix(value(s).String(), "-")); Digits(s) != want {
			t.Errorf("Digits(%q): %d", s, Digits(s))
		}
	}
	for s, want := range map[string]int{"0": 1, "-7": 1, "-120": 3, "": 1, "007": 1, "-0": 1, "1234x": 1} {
		if Digits(s) != want {
			t.Errorf("Digits(%q): %d", s, Digits(s))
		}
	}
}

func TestCompare(t *testing.T) {
	forPairs(func(a, b string) {
		if got, want := Compare(a, b), value(a).Cmp(value(b)); got != want {
			t.Errorf("Compare(%q, %q): %d", a, b, got)
		}
	})
	for _, c := range []struct {
		a, b string
		want int
	}{{"-2", "1", -1}, {"3", "3", 0}, {"-3", "-20", 1}, {"9", "10", -1}, {"x", "-0", 0}, {"007", "-1", 1}, {"12", "13", -1}} {
		if got := Compare(c.a, c.b); got != c.want {
			t.Errorf("Compare(%q, %q): %d", c.a, c.b, got)
		}
	}
}

// P1.2

func TestNegate(t *testing.T) {
	for _, s := range samples() {
		expect(t, call("Negate", s), Negate(s), new(big.Int).Neg(value(s)).String())
	}
	expect(t, "Negate 0", Negate("0"), "0")
	expect(t, "Negate of no decimal", Negate("-05"), "0")
	expect(t, "Negate", Negate("-9223372036854775808"), "9223372036854775808")
}

func TestAddAndSubtract(t *testing.T) {
	forPairs(func(a, b string) {
		expect(t, call("Add", a, b), Add(a, b), new(big.Int).Add(value(a), value(b)).String())
		expect(t, call("Subtract", a, b), Subtract(a, b), new(big.Int).Sub(value(a), value(b)).String())
	})
	expect(t, "Add of the chapter", Add("007", "1"), "1")
	expect(t, "Add", Add("999", "1"), "1000")
	expect(t, "Subtract", Subtract("1000", "1"), "999")
	expect(t, "Subtract", Subtract("5", "5"), "0")
	expect(t, "Subtract", Subtract("+3", "8"), "-8")
}

func TestMultiply(t *testing.T) {
	forPairs(func(a, b string) {
		expect(t, call("Multiply", a, b), Multiply(a, b), new(big.Int).Mul(value(a), value(b)).String())
	})
	expect(t, "Multiply", Multiply("-3", "0"), "0")
	expect(t, "Multiply", Multiply("-12", "-12"), "144")
	expect(t, "Multiply", Multiply("00", "-12"), "0")
}

// P1.3

// isFloor reports whether q is the greatest integer not greater than a / b, and r the remainder: r / b is at least 0 and less than 1.
func isFloor(a, b, q, r *big.Int) bool {
	sum := new(big.Int).Mul(q, b)
	return sum.Add(sum, r).Cmp(a) == 0 && r.CmpAbs(b) < 0 && (r.Sign() == 0 || r.Sign() == b.Sign())
}

func TestDivide(t *testing.T) {
	forPairs(func(a, b string) {
		q, r := Divide(a, b)
		if !isDecimal(q) || !isDecimal(r) {
			t.Errorf("Divide(%q, %q): %q, %q", a, b, q, r)
		} else if value(b).Sign() == 0 {
			expect(t, call("Divide", a, b), q+" "+r, "0 "+value(a).String())
		} else if !isFloor(value(a), value(b), value(q), value(r)) {
			t.Errorf("Divide(%q, %q): %q, %q", a, b, q, r)
		}
	})
	for _, c := range [][4]string{
		{"-7", "2", "-4", "1"}, {"7", "-2", "-4", "-1"}, {"-7", "-2", "3", "-1"}, {"7", "2", "3", "1"},
		{"-6", "3", "-2", "0"}, {"-1", "10", "-1", "9"}, {"1", "-10", "-1", "-9"}, {"0", "-5", "0", "0"},
		{"-5", "0", "0", "-5"}, {"0", "0", "0", "0"}, {"x", "0", "0", "0"}, {"5", "03", "0", "5"}, {"05", "3", "0", "0"},
	} {
		q, r := Divide(c[0], c[1])
		expect(t, call("Divide", c[0], c[1]), q+" "+r, c[2]+" "+c[3])
	}
}

func gcd(a, b *big.Int) *big.Int {
	return new(big.Int).GCD(nil, nil, new(big.Int).Abs(a), new(big.Int).Abs(b))
}

func TestGcd(t *testing.T) {
	forPairs(func(a, b string) {
		expect(t, call("Gcd", a, b), Gcd(a, b), gcd(value(a), value(b)).String())
	})
	for _, c := range [][3]string{{"0", "0", "0"}, {"0", "-5", "5"}, {"-5", "0", "5"}, {"-12", "18", "6"}, {"-4", "-6", "2"}, {"-", "7", "7"}, {"-", "+", "0"}} {
		expect(t, call("Gcd", c[0], c[1]), Gcd(c[0], c[1]), c[2])
	}
}

// lowest returns num / den in lowest terms.
func lowest(num, den *big.Int) (string, string) {
	if den.Sign() == 0 {
		return "0", "1"
	}
	x := new(big.Rat).SetFrac(num, den)
	return x.Num().String(), x.Denom().String()
}

func TestReduce(t *testing.T) {
	forPairs(func(num, den string) {
		n, d := Reduce(num, den)
		wantN, wantD := lowest(value(num), value(den))
		expect(t, call("Reduce", num, den), n+" "+d, wantN+" "+wantD)
	})
	for _, c := range [][4]string{
		{"6", "-4", "-3", "2"}, {"-4", "-2", "2", "1"}, {"0", "-9", "0", "1"}, {"0", "0", "0", "1"}, {"5", "0", "0", "1"},
		{"5", "x", "0", "1"}, {"x", "-5", "0", "1"}, {"-7", "7", "-1", "1"}, {"3", "5", "3", "5"},
	} {
		n, d := Reduce(c[0], c[1])
		expect(t, call("Reduce", c[0], c[1]), n+" "+d, c[2]+" "+c[3])
	}
}

// TestManyDigits computes with integers of thousands of digits.
func TestManyDigits(t *testing.T) {
	g := generator(3)
	a, b, c := g.decimal(3000), g.decimal(2000), g.decimal(700)
	x, y, z := value(a), value(b), value(c)
	expect(t, "Add", Add(a, b), new(big.Int).Add(x, y).String())
	expect(t, "Subtract", Subtract(b, a), new(big.Int).Sub(y, x).String())
	expect(t, "Multiply", Multiply(a, b), new(big.Int).Mul(x, y).String())
	if q, r := Divide(a, c); !isFloor(x, z, value(q), value(r)) {
		t.Error("Divide")
	}
	num, den := Multiply(a, c), Multiply(b, c)
	expect(t, "Gcd", Gcd(num, den), gcd(value(num), value(den)).String())
	n, d := Reduce(num, den)
	wantN, wantD := lowest(x, y)
	expect(t, "Reduce", n+" "+d, wantN+" "+wantD)
}

// TestLongByShort divides by few digits, which takes as long as the dividend.
func TestLongByShort(t *testing.T) {
	sevens := strings.Repeat("7", 300000)
	q, r := Divide("-"+sevens+"5", "7")
	expect(t, "Divide", q+" "+r, "-"+strings.Repeat("1", 300000)+"1 2")
	expect(t, "Gcd", Gcd(sevens, "70"), "7")
	n, d := Reduce(sevens, "-7")
	expect(t, "Reduce", n+" "+d, "-"+strings.Repeat("1", 300000)+" 1")
}
