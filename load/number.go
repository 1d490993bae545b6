package load

import (
	"iter"
	"math/bits"

	"azalai/api"
)

func inRange(n, least, most int) bool { return least <= n && n <= most }

// validSpan tells whether a span has its Lo at most its Hi, and both from a number to another one.
func validSpan(s api.Span, least, most int) bool {
	return least <= s.Lo && s.Lo <= s.Hi && s.Hi <= most
}

func validBound(bound int) bool { return inRange(bound, 0, api.MaxWeight) }

func sum(spans ...api.Span) api.Span {
	total := api.Span{}
	for _, s := range spans {
		total.Lo += s.Lo
		total.Hi += s.Hi
	}
	return total
}

// all tells whether something is so of all things of a list.
func all[T any](list []T, so func(T) bool) bool {
	for _, thing := range list {
		if !so(thing) {
			return false
		}
	}
	return true
}

// subsets yields the subsets of a list, those with fewer members first; of those with as many the one first that has the earlier member where they differ.
func subsets(list []int) iter.Seq[[]int] {
	return func(yield func([]int) bool) {
		for size := range len(list) + 1 {
			// The highest bit is that of the first member: who lacks only later ones comes early.
			for lacks := range 1 << len(list) {
				if bits.OnesCount(uint(lacks)) == len(list)-size && !yield(subset(list, lacks)) {
					return
				}
			}
		}
	}
}

// subset returns a list without the members that it lacks, bit by bit, the last member by the lowest bit.
func subset(list []int, lacks int) []int {
	var members []int
	for i, member := range list {
		if lacks>>(len(list)-1-i)&1 == 0 {
			members = append(members, member)
		}
	}
	return members
}
