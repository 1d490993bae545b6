package share

import "azalai/api"

func validPact(p api.Pact) bool {
	return inRange(len(p.Partners), 1, api.MaxPartners) && validPartners(p.Partners) &&
		inRange(p.Calf, 0, api.Whole) && inRange(p.Hire, 0, api.MaxHire) && inRange(p.Ends, 0, api.MaxDay)
}

func validPartners(partners []api.Partner) bool {
	id, puts, shares := -1, 0, 0
	for _, p := range partners {
		if !inRange(p.Id, id+1, api.MaxId) || !inRange(p.Put, 0, api.MaxPut) || !inRange(p.Share, 0, api.Whole) {
			return false
		}
		id, puts, shares = p.Id, puts+p.Put, shares+p.Share
	}
	return puts > 0 && shares == api.Whole
}

// divided returns the part of each partner of a result; of a loss no part is above 0.
func divided(p api.Pact, result int) []int {
	if result >= 0 {
		return parts(result, numbersOf(p, func(one api.Partner) int { return one.Share }))
	}
	borne := parts(-result, numbersOf(p, func(one api.Partner) int { return one.Put }))
	for i := range borne {
		borne[i] = -borne[i]
	}
	return borne
}

// numbersOf returns a number of each partner.
func numbersOf(p api.Pact, number func(api.Partner) int) []int {
	var numbers []int
	for _, one := range p.Partners {
		numbers = append(numbers, number(one))
	}
	return numbers
}

// parts returns the parts of some rials by weights that are not all 0, to the last rial. Nothing overflows: no letters lead to more than MaxResult, and MaxResult times MaxPut is below 2^63.
func parts(rials int, weights []int) []int {
	whole := sum(weights...)
	cutOff := func(i int) int { return rials * weights[i] % whole }
	var parts, partners []int
	for i, weight := range weights {
		parts, partners = append(parts, rials*weight/whole), append(partners, i)
	}
	// What was cut off is less than a rial of each: so fewer rials are left than there are partners of whom something was cut off.
	left := rials - sum(parts...)
	mostFirst := ordered(partners, func(i int) int { return -cutOff(i) })
	for _, i := range mostFirst[:left] {
		parts[i]++
	}
	return parts
}
