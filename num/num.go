// Package num is layer 1 (integers and their texts): bounded arithmetic, decimal texts, and lists of numbers that are used as sets.
package num

import (
	"slices"

	"fedchat/api"
)

// limits are the least and the greatest number of the system.
var limits = [2]int{-api.MaxInt, api.MaxInt}

// Clip returns the number from lo to hi that is nearest to n, or lo if there is none from lo to hi.
func Clip(n, lo, hi int) int {
	if lo > hi || n < lo {
		return lo
	}
	if n > hi {
		return hi
	}
	return n
}

// Add returns the sum of a and b, where both numbers and the sum are replaced by the nearest ones within the limits.
func Add(a, b int) int {
	return bounded(bounded(a) + bounded(b))
}

func bounded(n int) int {
	return Clip(n, limits[0], limits[1])
}

// Text returns n in decimal digits.
func Text(n int) string {
	rest := magnitude(n)
	width := digitCount(rest)
	digits := make([]byte, width)
	for i := range width {
		digits[width-1-i] = byte('0' + rest%10)
		rest /= 10
	}
	if n < 0 {
		return "-" + string(digits)
	}
	return string(digits)
}

// magnitude is unsigned because the least int has no positive counterpart.
func magnitude(n int) uint64 {
	if n < 0 {
		return -uint64(n)
	}
	return uint64(n)
}

func digitCount(n uint64) int {
	count := 1
	for n >= 10 {
		n /= 10
		count++
	}
	return count
}

// Parse returns the number within the limits whose Text is s, and whether there is one.
func Parse(s string) (int, bool) {
	digits, negative := s, false
	if len(s) > 0 && s[0] == '-' {
		digits, negative = s[1:], true
	}
	n, ok := digitsValue(digits)
	if !ok || negative && n == 0 {
		return 0, false
	}
	if negative {
		n = -n
	}
	if n < limits[0] || n > limits[1] {
		return 0, false
	}
	return n, true
}

// digitsValue reads digits without leading zeros; the number of digits is bounded so that the value cannot overflow.
func digitsValue(s string) (int, bool) {
	if len(s) == 0 || len(s) > digitCount(api.MaxInt) || s[0] == '0' && len(s) > 1 {
		return 0, false
	}
	n := 0
	for i := range len(s) {
		if s[i] < '0' || s[i] > '9' {
			return 0, false
		}
		n = 10*n + int(s[i]-'0')
	}
	return n, true
}

// Max returns the greatest element of l, and whether there is one.
func Max(l []int) (int, bool) {
	if len(l) == 0 {
		return 0, false
	}
	return slices.Max(l), true
}

// Sorted returns the elements of l in increasing order, each of them once.
func Sorted(l []int) []int {
	sorted := slices.Clone(l)
	slices.Sort(sorted)
	return slices.Compact(sorted)
}

// Has reports whether n is an element of l.
func Has(l []int, n int) bool {
	return slices.Contains(l, n)
}

// Union returns the numbers that are elements of a or of b, in increasing order, each of them once.
func Union(a, b []int) []int {
	return Sorted(slices.Concat(a, b))
}

// Minus returns the numbers that are elements of a and not of b, in increasing order, each of them once.
func Minus(a, b []int) []int {
	removed := Sorted(b)
	left := []int{}
	for _, n := range Sorted(a) {
		if _, found := slices.BinarySearch(removed, n); !found {
			left = append(left, n)
		}
	}
	return left
}
