package market

import (
	"slices"

	"azalai/api"
)

// round returns the shortest of the rounds of some offers by which one has more, the first one of these; nil if there is none.
func (m market) round(open []int) []int {
	// An offer gives another good than it gets, and no good is given twice.
	for size := 2; size <= api.MaxGoods; size++ {
		if round := m.roundOf(open, size); round != nil {
			return round
		}
	}
	return nil
}

// roundOf returns the first round of so many offers by which one has more; nil if there is none.
func (m market) roundOf(open []int, size int) []int {
	var find func(begun []int) []int
	find = func(begun []int) []int {
		if len(begun) == size {
			if m.gains(begun) {
				return begun
			}
			return nil
		}
		for _, i := range open {
			if !m.continues(begun, i) {
				continue
			}
			if round := find(append(slices.Clip(begun), i)); round != nil {
				return round
			}
		}
		return nil
	}
	return find(nil)
}

// continues tells whether an offer gives what the last of some others gets, and what none of them gives.
func (m market) continues(begun []int, i int) bool {
	give := m.offers[i].Give
	if len(begun) > 0 && m.offers[begun[len(begun)-1]].Get != give {
		return false
	}
	return all(begun, func(j int) bool { return m.offers[j].Give != give })
}

// gains tells whether offers come back to the good that the first of them gives, with more of it for sure.
func (m market) gains(round []int) bool {
	var given, got []int
	for _, i := range round {
		given, got = append(given, m.offers[i].Units), append(got, m.offers[i].For.Lo)
	}
	first, last := m.offers[round[0]], m.offers[round[len(round)-1]]
	return last.Get == first.Give && product(got...) > product(given...)
}
