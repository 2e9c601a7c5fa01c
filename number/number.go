// Package number: exact integers as decimal strings: see ../shared/doc/01-number.md.
//
// A text that is not a decimal counts as 0 everywhere.
package number

import (
	"cmp"
	"strconv"
	"strings"
)

// smallDigits is how many digits Small accepts.
const smallDigits = 9

// Valid reports whether s is a decimal: 0, or an optional minus sign followed by digits of which the first is not 0.
func Valid(s string) bool {
	if s == "0" {
		return true
	}
	s = strings.TrimPrefix(s, "-")
	if s == "" || s[0] == '0' {
		return false
	}
	for i := range len(s) {
		if s[i] < '0' || s[i] > '9' {
			return false
		}
	}
	return true
}

// FromInt returns the decimal of n.
func FromInt(n int) string {
	return strconv.Itoa(n)
}

// Small returns the value of a and true if a has at most 9 digits; otherwise 0 and false.
func Small(a string) (int, bool) {
	negative, digits := split(a)
	if len(digits) > smallDigits {
		return 0, false
	}
	value := 0
	for i := range len(digits) {
		value = 10*value + int(digits[i]-'0')
	}
	if negative {
		value = -value
	}
	return value, true
}

// Digits returns the number of digits of a, without the sign.
func Digits(a string) int {
	_, digits := split(a)
	return len(digits)
}

// Compare returns -1, 0 or 1 if a is less than, equal to or greater than b.
func Compare(a, b string) int {
	aNegative, aDigits := split(a)
	bNegative, bDigits := split(b)
	switch {
	case aNegative && !bNegative:
		return -1
	case !aNegative && bNegative:
		return 1
	case aNegative:
		return compareTexts(bDigits, aDigits)
	}
	return compareTexts(aDigits, bDigits)
}

// compareTexts compares two decimals without a sign.
func compareTexts(a, b string) int {
	if len(a) != len(b) {
		return cmp.Compare(len(a), len(b))
	}
	return strings.Compare(a, b)
}

// split reports whether a is negative, and returns its digits without the sign.
func split(a string) (bool, string) {
	if !Valid(a) {
		return false, "0"
	}
	digits := strings.TrimPrefix(a, "-")
	return len(digits) < len(a), digits
}
