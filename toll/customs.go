package toll

import (
	"cmp"
	"slices"

	"azalai/api"
)

func isTribe(n int) bool { return inRange(n, 0, api.MaxTribes-1) }

// validClaims tells whether claims are valid in a land of so many legs.
func validClaims(claims []api.Claim, legs int) bool {
	return len(claims) <= api.MaxClaims && all(claims, func(c api.Claim) bool {
		return inRange(c.Leg, 0, legs-1) && isTribe(c.Tribe) && validDays(claim(c)) &&
			inRange(c.Head, 0, api.MaxHead) && inRange(c.Part, 0, api.Whole)
	})
}

func validFeuds(feuds []api.Feud) bool {
	return len(feuds) <= api.MaxFeuds && all(feuds, func(f api.Feud) bool {
		return isTribe(f.A) && isTribe(f.B) && f.A != f.B && validDays(feud(f))
	})
}

// validBorders tells whether borders are valid in a land of so many legs.
func validBorders(borders []api.Border, legs int) bool {
	return len(borders) <= api.MaxBorders && all(borders, func(b api.Border) bool {
		return inRange(b.Leg, 0, legs-1) && validDays(border(b))
	})
}

// customs are those of a land at work.
type customs api.Custom

// nobody is the index of the claim that holds a leg that nobody holds.
const nobody = -1

// holder returns the index of the claim that is the holder of a leg on a day.
func (c customs) holder(leg, day int) int {
	holder := nobody
	goesBefore := func(a, b api.Claim) bool {
		return cmp.Or(cmp.Compare(a.From, b.From), cmp.Compare(a.Tribe, b.Tribe)) < 0
	}
	for i, now := range c.Claims {
		if now.Leg != leg || !inForce(claim(now), day) {
			continue
		}
		if holder == nobody || goesBefore(now, c.Claims[holder]) {
			holder = i
		}
	}
	return holder
}

// dispute tells whether two claims of different tribes are to the same leg on the same day.
func dispute(a, b api.Claim) bool {
	return a.Leg == b.Leg && a.Tribe != b.Tribe && meet(claim(a), claim(b))
}

// disputes returns the indices of all claims that are in each other's way.
func (c customs) disputes() [][2]int {
	var pairs [][2]int
	for i, a := range c.Claims {
		for j, b := range c.Claims {
			if i < j && dispute(a, b) {
				pairs = append(pairs, [2]int{i, j})
			}
		}
	}
	return pairs
}

// closed tells whether a border of a leg is in force on a day.
func (c customs) closed(leg, day int) bool {
	return slices.ContainsFunc(c.Borders, func(b api.Border) bool {
		return b.Leg == leg && inForce(border(b), day)
	})
}

// foes returns the tribes that are at feud with another one on a day.
func (c customs) foes(tribe, day int) []int {
	var foes []int
	for _, f := range c.Feuds {
		switch {
		case !inForce(feud(f), day):
		case f.A == tribe:
			foes = append(foes, f.B)
		case f.B == tribe:
			foes = append(foes, f.A)
		}
	}
	return foes
}

// rules returns all that may change something on a leg.
func (c customs) rules(leg int) []rule {
	var rules []rule
	for _, now := range c.Claims {
		if now.Leg == leg {
			rules = append(rules, claim(now))
		}
	}
	for _, f := range c.Feuds {
		rules = append(rules, feud(f))
	}
	for _, b := range c.Borders {
		if b.Leg == leg {
			rules = append(rules, border(b))
		}
	}
	return rules
}

// state is what is so on a leg on a day: whether it is closed, and whether it is held, by which claim, with which foes.
type state struct {
	closed, held bool
	holder       api.Claim
	foes         []int
}

func (c customs) state(leg, day int) state {
	now := state{closed: c.closed(leg, day)}
	if i := c.holder(leg, day); i != nobody {
		now.held, now.holder = true, c.Claims[i]
		now.foes = c.foes(now.holder.Tribe, day)
	}
	return now
}

// states returns all that is so on a leg on some days.
func (c customs) states(leg int, days api.Span) []state {
	var states []state
	for day := range changes(days, c.rules(leg)) {
		states = append(states, c.state(leg, day))
	}
	return states
}
