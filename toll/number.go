package toll

import (
	"slices"

	"azalai/api"
)

func inRange(n, least, most int) bool { return least <= n && n <= most }

// validSpan tells whether a span has its Lo at most its Hi, and both from a number to another one.
func validSpan(s api.Span, least, most int) bool {
	return least <= s.Lo && s.Lo <= s.Hi && s.Hi <= most
}

// least returns the least of some numbers; there has to be one.
func least(numbers ...int) int { return slices.Min(numbers) }

// divided returns a number from 0 on divided by another one, rounded up.
func divided(n, by int) int { return (n + by - 1) / by }

// all tells whether something is so of all things of a list.
func all[T any](list []T, so func(T) bool) bool {
	for _, thing := range list {
		if !so(thing) {
			return false
		}
	}
	return true
}

// increasing tells whether each of some numbers is greater than the one before it.
func increasing(numbers []int) bool {
	for i := range len(numbers) - 1 {
		if numbers[i] >= numbers[i+1] {
			return false
		}
	}
	return true
}
