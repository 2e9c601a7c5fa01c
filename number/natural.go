package number

import "slices"

// A natural number is a slice of bytes: the values of its digits, the least significant first, without a zero at the end. So 0 has no digits, and equal numbers have equal slices. No function here changes its arguments, except takeAway.

// trim removes the zeros at the end.
func trim(a []byte) []byte {
	n := len(a)
	for n > 0 && a[n-1] == 0 {
		n--
	}
	return a[:n]
}

// compareNaturals returns -1, 0 or 1 if a is less than, equal to or greater than b.
func compareNaturals(a, b []byte) int {
	if len(a) < len(b) {
		return -1
	}
	if len(a) > len(b) {
		return 1
	}
	for i := range len(a) {
		top := len(a) - 1 - i
		if a[top] < b[top] {
			return -1
		}
		if a[top] > b[top] {
			return 1
		}
	}
	return 0
}

func addNaturals(a, b []byte) []byte {
	if len(a) < len(b) {
		a, b = b, a
	}
	sum := make([]byte, len(a)+1)
	var carry byte
	for i := range len(a) {
		digit := a[i] + carry
		if i < len(b) {
			digit += b[i]
		}
		carry = digit / 10
		sum[i] = digit % 10
	}
	sum[len(a)] = carry
	return trim(sum)
}

// subtractNaturals returns a - b, where b is not greater than a.
func subtractNaturals(a, b []byte) []byte {
	difference := slices.Clone(a)
	takeAway(difference, b)
	return trim(difference)
}

// takeAway subtracts b from a in the place of a, where b is not greater than a.
func takeAway(a, b []byte) {
	var borrow byte
	for i := range len(a) {
		if i >= len(b) && borrow == 0 {
			return
		}
		digit := borrow
		if i < len(b) {
			digit += b[i]
		}
		borrow = 0
		if a[i] < digit {
			a[i] += 10
			borrow = 1
		}
		a[i] -= digit
	}
}

func multiplyNaturals(a, b []byte) []byte {
	product := make([]byte, len(a)+len(b))
	for i := range len(a) {
		var carry byte
		for j := range len(b) {
			// At most 9 + 9*9 + 9, so the carry is a digit again.
			digit := product[i+j] + a[i]*b[j] + carry
			product[i+j] = digit % 10
			carry = digit / 10
		}
		product[i+len(b)] = carry
	}
	return trim(product)
}

// divideNaturals returns the quotient and the remainder of a divided by b, which is not 0.
func divideNaturals(a, b []byte) ([]byte, []byte) {
	if len(a) < len(b) {
		return nil, a
	}
	quotient := make([]byte, len(a)-len(b)+1)
	remainder := slices.Clone(a)
	for i := range len(quotient) {
		shift := len(quotient) - 1 - i
		// From this position on, less than 10 * b is left: all higher digits are 0, and trim need not pass them again.
		rest := trim(remainder[shift:min(shift+len(b)+1, len(remainder))])
		for compareNaturals(rest, b) >= 0 {
			takeAway(rest, b)
			rest = trim(rest)
			quotient[shift]++
		}
	}
	return trim(quotient), trim(remainder)
}

// greatestDivisor returns the greatest common divisor; that of two zeros is 0.
func greatestDivisor(a, b []byte) []byte {
	for len(b) > 0 {
		_, remainder := divideNaturals(a, b)
		a, b = b, remainder
	}
	return a
}
