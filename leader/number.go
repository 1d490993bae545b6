package leader

import (
	"slices"

	"azalai/api"
)

func inRange(n, least, most int) bool { return least <= n && n <= most }

// isSaid tells whether a number may be one of a command, or of a text.
func isSaid(n int) bool { return inRange(n, -api.MaxSaid, api.MaxSaid) }

func isIndex[T any](n int, list []T) bool { return inRange(n, 0, len(list)-1) }

// exactly returns the span of a number that is known.
func exactly(n int) api.Span { return api.Span{Lo: n, Hi: n} }

// spanAt returns the span of two numbers that stand beside each other.
func spanAt(numbers []int, at int) api.Span { return api.Span{Lo: numbers[at], Hi: numbers[at+1]} }

// around returns the least span that has two others in it.
func around(a, b api.Span) api.Span { return api.Span{Lo: min(a.Lo, b.Lo), Hi: max(a.Hi, b.Hi)} }

// all tells whether something is so of all things of a list.
func all[T any](list []T, so func(T) bool) bool {
	return !slices.ContainsFunc(list, func(one T) bool { return !so(one) })
}

// with returns a list with one more, in memory of its own.
func with[T any](list []T, one T) []T { return slices.Concat(list, []T{one}) }

// copied returns a list, in memory of its own, of what a function makes of each thing of another one.
func copied[T any](list []T, of func(T) T) []T {
	var next []T
	for _, one := range list {
		next = append(next, of(one))
	}
	return next
}
