package market

import (
	"iter"
	"slices"
)

// stays is the number of a chain at a fair where no offer is taken.
const stays = -1

// hand is what is in hand on a chain.
type hand struct{ good, units int }

// chains yields all chains that go on from the numbers of the first fairs, with what is in hand then, and what is in hand after each of them. Of two chains the one comes first whose first number that differs is less.
func (j journey) chains(begun []int, h hand) iter.Seq2[[]int, hand] {
	return func(yield func([]int, hand) bool) {
		fair := len(begun)
		if fair == len(j.fairs) {
			yield(begun, h)
			return
		}
		for _, number := range j.numbers(fair, h.good) {
			// Chains that begin alike do not share memory.
			longer := append(slices.Clip(begun), number)
			for chain, end := range j.chains(longer, j.after(fair, number, h)) {
				if !yield(chain, end) {
					return
				}
			}
		}
	}
}

// numbers returns what a chain may have at a fair with a good in hand, in ascending order.
func (j journey) numbers(fair, good int) []int {
	numbers := []int{stays}
	for _, i := range j.openAt(fair) {
		if j.offers[i].Give == good {
			numbers = append(numbers, i)
		}
	}
	return numbers
}

// after returns what is in hand after a fair and the road from it. Nothing overflows: MaxUnits, times MaxRatio at each of MaxFairs, times Whole is below 2^63.
func (j journey) after(fair, number int, h hand) hand {
	if number != stays {
		o := j.offers[number]
		h = hand{o.Get, product(h.units/o.Units, o.For.Lo)}
	}
	if fair < j.last() {
		h.units = left(h.units, j.fairs[fair].Keeps[h.good].Lo)
	}
	return h
}

// most returns the most of a good that can be in hand at last, and whether it can be in hand at all.
func (j journey) most(start hand, want int) (end hand, ok bool) {
	end.good = want
	for _, h := range j.chains(nil, start) {
		if h.good == want {
			end.units, ok = max(end.units, h.units), true
		}
	}
	return end, ok
}

// first returns the first chain with something in hand at last.
func (j journey) first(start, end hand) []int {
	for chain, h := range j.chains(nil, start) {
		if h == end {
			return chain
		}
	}
	return nil
}
