package share

import (
	"cmp"
	"slices"
)

func inRange(n, least, most int) bool { return least <= n && n <= most }

func sum(numbers ...int) int {
	total := 0
	for _, n := range numbers {
		total += n
	}
	return total
}

// nothing tells whether all of some numbers are 0.
func nothing(numbers ...int) bool {
	return !slices.ContainsFunc(numbers, func(n int) bool { return n != 0 })
}

// ordered returns a list, as a new one, in the order of numbers of its members: of those whose first numbers are the same by their second ones, and so on, and at last as they were.
func ordered[T any](list []T, by ...func(T) int) []T {
	next := slices.Clone(list)
	slices.SortStableFunc(next, func(a, b T) int {
		for _, number := range by {
			if order := cmp.Compare(number(a), number(b)); order != 0 {
				return order
			}
		}
		return 0
	})
	return next
}
