package toll

import (
	"maps"
	"slices"

	"azalai/api"
	"azalai/way"
)

func validTroop(t api.Troop) bool {
	return inRange(t.Heads, 1, api.MaxHeads) && inRange(t.Worth, 0, api.MaxValue) &&
		validTribes(t.People) && validTribes(t.Guides) && validTribes(t.Guests)
}

func validTribes(tribes []int) bool { return all(tribes, isTribe) && increasing(tribes) }

// checkTroop returns the first error of customs, of a troop, and of fees.
func checkTroop(l api.Land, c api.Custom, t api.Troop, fees []api.Fee) api.Errno {
	if e := Check(l, c); e != api.OK {
		return e
	}
	switch {
	case !validTroop(t):
		return api.ErrTroop
	case !validFees(fees):
		return api.ErrFees
	}
	return api.OK
}

// traveller is a troop on its way through a land with customs.
type traveller struct {
	api.Troop
	customs
	stops []api.Stop
}

// atWork returns a troop on its way, or the first error of what it is made of.
func atWork(l api.Land, c api.Custom, t api.Troop, fees []api.Fee, from, day int, pace api.Span, legs []int) (traveller, api.Errno) {
	if e := checkTroop(l, c, t, fees); e != api.OK {
		return traveller{}, e
	}
	stops, _, e := way.Walk(l, from, day, pace, legs)
	if e != api.OK {
		return traveller{}, e
	}
	return traveller{t, customs(c), stops}, api.OK
}

// onLegs returns all that is so on each leg of the way, on the days on which the troop may be on it.
func (t traveller) onLegs() [][]state {
	var legs [][]state
	for _, s := range t.stops {
		legs = append(legs, t.states(s.Leg, api.Span{Lo: s.Leaves.Lo, Hi: s.Arrives.Hi - 1}))
	}
	return legs
}

// barred returns why the troop is barred from the first leg from which it is so, by all that is so on each leg, and the place of this leg.
func (t traveller) barred(legs [][]state) (why uint8, at int) {
	for at, leg := range legs {
		if why := t.why(leg); why != api.BarNot {
			return why, at
		}
	}
	return api.BarNot, 0
}

// why returns why the troop is barred from a leg, by all that is so on it.
func (t traveller) why(leg []state) uint8 {
	bars := [...]func(traveller, state) bool{
		api.BarBorder: traveller.stopped,
		api.BarFeud:   traveller.hated,
		api.BarGuide:  traveller.unguided,
	}
	// The least reason counts, also if another one is so on an earlier day.
	for why := api.BarBorder; why < len(bars); why++ {
		for _, now := range leg {
			if bars[why](t, now) {
				return uint8(why)
			}
		}
	}
	return api.BarNot
}

func (t traveller) stopped(now state) bool { return now.closed }

func (t traveller) hated(now state) bool {
	return slices.ContainsFunc(now.foes, func(tribe int) bool {
		return slices.Contains(t.People, tribe) || slices.Contains(t.Guides, tribe)
	})
}

func (t traveller) unguided(now state) bool {
	return now.held && now.holder.Guide && !slices.Contains(t.Guides, now.holder.Tribe)
}

// pays returns what the troop pays if it leaves when something is so on a leg.
func (t traveller) pays(now state) int {
	if !now.held || slices.Contains(t.Guests, now.holder.Tribe) {
		return 0
	}
	return now.holder.Head*t.Heads + divided(now.holder.Part*t.Worth, api.Whole)
}

// tolls returns what each tribe may get on a leg of the way, and what the troop may pay on it.
func (t traveller) tolls(at int) (tolls []api.Toll, pays api.Span) {
	gets := map[int][]int{}
	var paid []int
	for _, now := range t.states(t.stops[at].Leg, t.stops[at].Leaves) {
		rials := t.pays(now)
		paid = append(paid, rials)
		if rials > 0 {
			gets[now.holder.Tribe] = append(gets[now.holder.Tribe], rials)
		}
	}
	for _, tribe := range slices.Sorted(maps.Keys(gets)) {
		got := gets[tribe]
		if len(got) < len(paid) {
			// On the other days it gets nothing.
			got = append(got, 0)
		}
		tolls = append(tolls, api.Toll{Leg: at, Tribe: tribe, Rials: ends(got)})
	}
	return tolls, ends(paid)
}

// ends returns the least and the greatest of some numbers; there has to be one.
func ends(numbers []int) api.Span {
	return api.Span{Lo: least(numbers...), Hi: slices.Max(numbers)}
}
