package number

// integer is a decimal that was taken apart. A result of a calculation may be negative without digits; it is 0.
type integer struct {
	negative bool
	digits   []byte // a natural number
}

// parse takes the decimal a apart.
func parse(a string) integer {
	negative, text := split(a)
	digits := make([]byte, len(text))
	for i := range len(text) {
		digits[len(text)-1-i] = text[i] - '0'
	}
	return integer{negative, trim(digits)}
}

// text returns the decimal of n.
func (n integer) text() string {
	if len(n.digits) == 0 {
		return "0"
	}
	text := make([]byte, 0, len(n.digits)+1)
	if n.negative {
		text = append(text, '-')
	}
	for i := range len(n.digits) {
		text = append(text, n.digits[len(n.digits)-1-i]+'0')
	}
	return string(text)
}

func (n integer) isZero() bool {
	return len(n.digits) == 0
}

func (n integer) negated() integer {
	return integer{!n.negative, n.digits}
}

func (n integer) plus(m integer) integer {
	if n.negative == m.negative {
		return integer{n.negative, addNaturals(n.digits, m.digits)}
	}
	if compareNaturals(n.digits, m.digits) < 0 {
		return integer{m.negative, subtractNaturals(m.digits, n.digits)}
	}
	return integer{n.negative, subtractNaturals(n.digits, m.digits)}
}

// Negate returns -a.
func Negate(a string) string {
	return parse(a).negated().text()
}

// Add returns a + b.
func Add(a, b string) string {
	return parse(a).plus(parse(b)).text()
}

// Subtract returns a - b.
func Subtract(a, b string) string {
	return parse(a).plus(parse(b).negated()).text()
}

// Multiply returns the product of a and b.
func Multiply(a, b string) string {
	n, m := parse(a), parse(b)
	return integer{n.negative != m.negative, multiplyNaturals(n.digits, m.digits)}.text()
}

// Divide returns the greatest integer q that is not greater than a / b, and a - q * b. If b is 0, it returns 0 and a.
func Divide(a, b string) (string, string) {
	n, m := parse(a), parse(b)
	if m.isZero() {
		return "0", n.text()
	}
	q, r := divideNaturals(n.digits, m.digits)
	quotient := integer{n.negative != m.negative, q}
	remainder := integer{n.negative, r}
	// The quotient of the digits is rounded towards 0; below 0, it has to be rounded down.
	if quotient.negative && !remainder.isZero() {
		quotient = quotient.plus(integer{true, []byte{1}})
		remainder = remainder.plus(m)
	}
	return quotient.text(), remainder.text()
}

// Gcd returns the greatest common divisor of a and b, which is not negative; Gcd of two zeros is 0.
func Gcd(a, b string) string {
	return integer{false, greatestDivisor(parse(a).digits, parse(b).digits)}.text()
}

// Reduce returns the numerator and the denominator of num / den in lowest terms, with a positive denominator; if den is 0, it returns 0 and 1.
func Reduce(num, den string) (string, string) {
	n, m := parse(num), parse(den)
	if m.isZero() {
		return "0", "1"
	}
	divisor := greatestDivisor(n.digits, m.digits)
	numerator, _ := divideNaturals(n.digits, divisor)
	denominator, _ := divideNaturals(m.digits, divisor)
	return integer{n.negative != m.negative, numerator}.text(), integer{false, denominator}.text()
}
