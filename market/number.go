package market

import "azalai/api"

func inRange(n, least, most int) bool { return least <= n && n <= most }

// validSpan tells whether a span has its Lo at most its Hi, and both from a number to another one.
func validSpan(s api.Span, least, most int) bool {
	return least <= s.Lo && s.Lo <= s.Hi && s.Hi <= most
}

// product returns the product of some numbers.
func product(numbers ...int) int {
	all := 1
	for _, n := range numbers {
		all *= n
	}
	return all
}

// all tells whether something is so of all things of a list.
func all[T any](list []T, so func(T) bool) bool {
	for _, thing := range list {
		if !so(thing) {
			return false
		}
	}
	return true
}
