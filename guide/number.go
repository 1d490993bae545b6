package guide

import (
	"slices"

	"azalai/api"
)

func inRange(n, least, most int) bool { return least <= n && n <= most }

// validSpan tells whether a span has its Lo at most its Hi, and both from a number to another one.
func validSpan(s api.Span, least, most int) bool {
	return least <= s.Lo && s.Lo <= s.Hi && s.Hi <= most
}

// ends returns the least and the greatest of some numbers; there has to be one.
func ends(numbers ...int) api.Span {
	return api.Span{Lo: slices.Min(numbers), Hi: slices.Max(numbers)}
}

// floor returns a number divided by one above 0, rounded down.
func floor(n, by int) int {
	if n%by < 0 {
		return n/by - 1
	}
	return n / by
}

// ceiling returns a number divided by one above 0, rounded up.
func ceiling(n, by int) int { return -floor(-n, by) }

// all tells whether something is so of all things of a list.
func all[T any](list []T, so func(T) bool) bool {
	for _, thing := range list {
		if !so(thing) {
			return false
		}
	}
	return true
}

// without returns the numbers of a list but for one, as a new list.
func without(list []int, number int) []int {
	return slices.DeleteFunc(slices.Clone(list), func(n int) bool { return n == number })
}
