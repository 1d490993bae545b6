package toll_test

import (
	"cmp"
	"math/rand/v2"
	"slices"

	"azalai/api"
	"azalai/way"
)

// The random journeys take place on few days, from the day 0 on, or until MaxDay.

const window = 50

// upTo returns a span of numbers from one to another one.
func upTo(r *rand.Rand, least, most int) api.Span {
	a, b := least+r.IntN(most-least+1), least+r.IntN(most-least+1)
	if r.IntN(3) == 0 {
		b = a
	}
	return span(min(a, b), max(a, b))
}

// someTribes are some of the tribes 0 to 4, in increasing order.
func someTribes(r *rand.Rand, often int) []int {
	var l []int
	for tribe := range 5 {
		if r.IntN(10) < often {
			l = append(l, tribe)
		}
	}
	return l
}

// someGate is open on most of some days.
func someGate(r *rand.Rand, from int) api.Gate {
	g := api.Gate{Opens: exactly(from), Shuts: exactly(from + window)}
	if r.IntN(3) == 0 {
		g.Opens = upTo(r, from, from+15)
	}
	if r.IntN(3) == 0 {
		g.Shuts = upTo(r, from+20, from+window)
	}
	return g
}

func someLand(r *rand.Rand, from int) api.Land {
	l := paths(3 + r.IntN(2))
	for range 3 + r.IntN(4) {
		a := r.IntN(len(l.Wells))
		b := (a + 1 + r.IntN(len(l.Wells)-1)) % len(l.Wells)
		l.Legs = append(l.Legs, api.Leg{From: a, To: b, Long: upTo(r, 1, 50), Gates: []api.Gate{someGate(r, from)}})
	}
	return l
}

func someCustoms(r *rand.Rand, legs, from int) api.Custom {
	var c api.Custom
	for range 4 + r.IntN(15) {
		days := upTo(r, from, from+window)
		x := claim(r.IntN(legs), r.IntN(5), days.Lo, days.Hi, r.IntN(4), r.IntN(3)*r.IntN(500))
		x.Guide = r.IntN(3) == 0
		c.Claims = append(c.Claims, x)
	}
	for range r.IntN(8) {
		days := upTo(r, from, from+window)
		a := r.IntN(5)
		c.Feuds = append(c.Feuds, feud(a, (a+1+r.IntN(4))%5, days.Lo, days.Hi))
	}
	for range r.IntN(3) {
		days := upTo(r, from, from+window)
		c.Borders = append(c.Borders, border(r.IntN(legs), days.Lo, min(days.Hi, days.Lo+5)))
	}
	return c
}

// someWay returns a list of legs from a well, each one at the well where one is then.
func someWay(r *rand.Rand, l api.Land, well int) []int {
	var legs []int
	for range 1 + r.IntN(4) {
		for _, i := range r.Perm(len(l.Legs)) {
			if leg := l.Legs[i]; leg.From == well || leg.To == well {
				legs, well = append(legs, i), leg.From+leg.To-well
				break
			}
		}
	}
	return legs
}

// someJourney returns a journey by a way that is sure, with its stops.
func someJourney(r *rand.Rand) (journey, []api.Stop) {
	for {
		from := r.IntN(2) * (100000 - window)
		j := journey{l: someLand(r, from), pace: upTo(r, 6, 15)}
		j.c = someCustoms(r, len(j.l.Legs), from)
		j.t = api.Troop{Heads: 1 + r.IntN(4), Worth: r.IntN(100), People: someTribes(r, 2), Guides: someTribes(r, 2), Guests: someTribes(r, 2)}
		for _, tribe := range someTribes(r, 7) {
			j.fees = append(j.fees, fee(tribe, r.IntN(4)))
		}
		j.from, j.to, j.day, j.until = r.IntN(len(j.l.Wells)), r.IntN(len(j.l.Wells)), from+r.IntN(10), from+20+r.IntN(31)
		j.legs = someWay(r, j.l, j.from)
		if stops, _, e := way.Walk(j.l, j.from, j.day, j.pace, j.legs); e == api.OK {
			return j, stops
		}
	}
}

// What follows tells word by word of the chapter, day by day, what is to be found.

// holderOf returns the claim that is the holder of a leg, -1 if there is none.
func holderOf(c api.Custom, leg, day int) int {
	var l []int
	for i, x := range c.Claims {
		if x.Leg == leg && x.From <= day && day <= x.To {
			l = append(l, i)
		}
	}
	slices.SortFunc(l, func(i, k int) int {
		a, b := c.Claims[i], c.Claims[k]
		return cmp.Or(cmp.Compare(a.From, b.From), cmp.Compare(a.Tribe, b.Tribe), cmp.Compare(i, k))
	})
	return append(l, -1)[0]
}

// atFeud tells whether two tribes are at feud on a day.
func atFeud(c api.Custom, a, b, day int) bool {
	return slices.ContainsFunc(c.Feuds, func(f api.Feud) bool {
		return (f.A == a && f.B == b || f.A == b && f.B == a) && f.From <= day && day <= f.To
	})
}

// brokenOn returns why a troop, with some guides besides its own, breaks the customs on a leg on a day: the least reason, 0 if it does not.
func brokenOn(c api.Custom, t api.Troop, guides []int, leg, day int) uint8 {
	for _, b := range c.Borders {
		if b.Leg == leg && b.From <= day && day <= b.To {
			return 1
		}
	}
	i := holderOf(c, leg, day)
	if i < 0 {
		return 0
	}
	guides = slices.Concat(t.Guides, guides)
	for _, tribe := range slices.Concat(t.People, guides) {
		if atFeud(c, c.Claims[i].Tribe, tribe, day) {
			return 2
		}
	}
	if c.Claims[i].Guide && !slices.Contains(guides, c.Claims[i].Tribe) {
		return 3
	}
	return 0
}

// paidOn returns what a troop pays that leaves on a day, and to which tribe.
func paidOn(c api.Custom, t api.Troop, leg, day int) (tribe, rials int) {
	i := holderOf(c, leg, day)
	if i < 0 || slices.Contains(t.Guests, c.Claims[i].Tribe) {
		return 0, 0
	}
	x := c.Claims[i]
	rials = x.Head * t.Heads
	for part := x.Part * t.Worth; part > 0; part -= 1000 {
		rials++
	}
	return x.Tribe, rials
}

// barredBy returns the first place at which a troop with some more guides is barred, and why.
func barredBy(j journey, stops []api.Stop, guides []int) (why uint8, at int) {
	for at, s := range stops {
		for day := s.Leaves.Lo; day < s.Arrives.Hi; day++ {
			if w := brokenOn(j.c, j.t, guides, s.Leg, day); w > 0 && (why == 0 || w < why) {
				why = w
			}
		}
		if why > 0 {
			return why, at
		}
	}
	return 0, 0
}

// dueOn returns all tolls on a way, and what is paid in all.
func dueOn(j journey, stops []api.Stop) (tolls []api.Toll, all api.Span) {
	for at, s := range stops {
		var gets [8][]int
		var paid []int
		for day := s.Leaves.Lo; day <= s.Leaves.Hi; day++ {
			tribe, rials := paidOn(j.c, j.t, s.Leg, day)
			for other := range gets {
				if other == tribe {
					gets[other] = append(gets[other], rials)
				} else {
					gets[other] = append(gets[other], 0)
				}
			}
			paid = append(paid, rials)
		}
		for tribe, l := range gets {
			if slices.Max(l) > 0 {
				tolls = append(tolls, tolled(at, tribe, slices.Min(l), slices.Max(l)))
			}
		}
		all.Lo, all.Hi = all.Lo+slices.Min(paid), all.Hi+slices.Max(paid)
	}
	return tolls, all
}

// crew is some guides, and what they cost.
type crew struct {
	guides []int
	rials  int
}

// crews are all crews of some fees.
func crews(fees []api.Fee) []crew {
	if len(fees) == 0 {
		return []crew{{}}
	}
	var l []crew
	for _, c := range crews(fees[1:]) {
		l = append(l, c, crew{append(list(fees[0].Tribe), c.guides...), c.rials + fees[0].Rials})
	}
	return l
}

// hiredFor returns the best crew with which a way is not barred, and whether there is one.
func hiredFor(j journey, stops []api.Stop) (crew, bool) {
	var l []crew
	for _, c := range crews(j.fees) {
		if why, _ := barredBy(j, stops, c.guides); why == 0 {
			l = append(l, c)
		}
	}
	if len(l) == 0 {
		return crew{}, false
	}
	return slices.MinFunc(l, func(a, b crew) int {
		return cmp.Or(cmp.Compare(a.rials, b.rials), cmp.Compare(len(a.guides), len(b.guides)), slices.Compare(a.guides, b.guides))
	}), true
}
