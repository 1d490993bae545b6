package toll

import (
	"cmp"
	"slices"

	"azalai/api"
)

// validFees tells whether fees are valid; so they are no more than there are tribes, as no tribe is there twice.
func validFees(fees []api.Fee) bool {
	var tribes []int
	for _, f := range fees {
		tribes = append(tribes, f.Tribe)
	}
	return validTribes(tribes) && all(fees, func(f api.Fee) bool { return inRange(f.Rials, 0, api.MaxValue) })
}

// crew is guides that are hired, and what they cost.
type crew struct {
	guides []int
	rials  int
}

// crewOf returns the guides of a set, bit by bit, the first fee by the lowest bit.
func crewOf(fees []api.Fee, set int) crew {
	var c crew
	for i, f := range fees {
		if set>>i&1 == 1 {
			c.guides, c.rials = append(c.guides, f.Tribe), c.rials+f.Rials
		}
	}
	return c
}

// goesBefore tells whether guides are to be hired rather than others.
func (c crew) goesBefore(d crew) bool {
	return cmp.Or(cmp.Compare(c.rials, d.rials), cmp.Compare(len(c.guides), len(d.guides)), slices.Compare(c.guides, d.guides)) < 0
}

// hires returns the guides with whom the troop is not barred, and whether there are any.
func (t traveller) hires(fees []api.Fee) (best crew, found bool) {
	legs := t.onLegs()
	for set := range 1 << len(fees) {
		c := crewOf(fees, set)
		if found && !c.goesBefore(best) {
			continue
		}
		if why, _ := t.with(c.guides).barred(legs); why == api.BarNot {
			best, found = c, true
		}
	}
	return best, found
}

// with returns the troop with more guides.
func (t traveller) with(guides []int) traveller {
	t.Guides = slices.Concat(t.Guides, guides)
	return t
}
