// Package num is layer 1: see shared/doc/01-num.md.
package num

import (
	"strconv"
	"strings"

	"drayman/api"
)

// farthest is how far from 0 the numbers lie that Number answers.
const farthest = 1 << 62

// Fit: P1.1.
func Fit(n int) bool { return n >= 0 && n <= api.Most }

// Sum: P1.1.
func Sum(l ...int) (int, api.Errno) {
	// A number that is no amount comes before a sum that is none, wherever it
	// stands: so all are looked at before any is added.
	if !amounts(l...) {
		return 0, api.ErrRange
	}
	sum := 0
	for _, n := range l {
		// Not sum+n > Most at the end: enough amounts would wrap round.
		if n > api.Most-sum {
			return 0, api.ErrOver
		}
		sum += n
	}
	return sum, api.OK
}

// Less: P1.1.
func Less(a, b int) (int, api.Errno) {
	if !amounts(a, b) {
		return 0, api.ErrRange
	}
	if b > a {
		return 0, api.ErrStock
	}
	return a - b, api.OK
}

// Shift: P1.1.
func Shift(a, by int) (int, api.Errno) {
	if !Fit(a) || by < -api.Most || by > api.Most {
		return 0, api.ErrRange
	}
	if a+by < 0 {
		return 0, api.ErrStock
	}
	if a+by > api.Most {
		return 0, api.ErrOver
	}
	return a + by, api.OK
}

// Times: P1.1.
func Times(a, b int) (int, api.Errno) {
	if !amounts(a, b) {
		return 0, api.ErrRange
	}
	// Divided and not multiplied: the product of two amounts may wrap round.
	if b > 0 && a > api.Most/b {
		return 0, api.ErrOver
	}
	return a * b, api.OK
}

// Digits: P1.2.
func Digits(n int) string { return strconv.Itoa(n) }

// Number: P1.2.
func Number(s string) (int, api.Errno) {
	size, negative := strings.CutPrefix(s, "-")
	if !plain(size) || negative && size == "0" {
		return 0, api.ErrForm
	}
	n, near := value(size)
	if !near {
		return 0, api.ErrRange
	}
	if negative {
		n = -n
	}
	return n, api.OK
}

// amounts reports whether each of the numbers is an amount.
func amounts(l ...int) bool {
	for _, n := range l {
		if !Fit(n) {
			return false
		}
	}
	return true
}

// plain reports whether s is the digits of a number that is not negative.
func plain(s string) bool {
	if s == "" || len(s) > 1 && s[0] == '0' {
		return false
	}
	for _, r := range s {
		if r < '0' || r > '9' {
			return false
		}
	}
	return true
}

// value is the number whose digits s are, and whether it is near enough to 0
// to be answered. The text may be of any length, so it is left as soon as the
// number is too far: no digit that follows brings it back.
func value(s string) (int, bool) {
	n := 0
	for _, r := range s {
		digit := int(r - '0')
		if n > (farthest-digit)/10 {
			return 0, false
		}
		n = n*10 + digit
	}
	return n, true
}
