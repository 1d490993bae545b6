package leader

import (
	"slices"

	"azalai/api"
	"azalai/brand"
	"azalai/camel"
	"azalai/guide"
	"azalai/load"
	"azalai/share"
	"azalai/way"
)

// company is one at work, whose lists are its own. What it does is refused before anything of it is changed.
type company struct{ api.Company }

// atWork returns a company at work that shares no memory with the one that is given.
func atWork(c api.Company) *company {
	c.Land.Wells = slices.Clone(c.Land.Wells)
	c.Land.Legs = copied(c.Land.Legs, func(l api.Leg) api.Leg {
		l.Gates = slices.Clone(l.Gates)
		return l
	})
	c.Draws = slices.Clone(c.Draws)
	c.Area.Halves = slices.Clone(c.Area.Halves)
	c.Camels = slices.Clone(c.Camels)
	c.Packs = slices.Clone(c.Packs)
	c.Ties = copied(c.Ties, func(t api.Tied) api.Tied {
		return api.Tied{Left: slices.Clone(t.Left), Right: slices.Clone(t.Right), Top: slices.Clone(t.Top)}
	})
	c.Rows = slices.Clone(c.Rows)
	c.Pact.Partners = slices.Clone(c.Pact.Partners)
	c.Letters = slices.Clone(c.Letters)
	c.Log = copied(c.Log, func(e api.Entry) api.Entry {
		e.Args = slices.Clone(e.Args)
		return e
	})
	return &company{c}
}

func (c *company) marches(n []int) {
	day := api.March{Hours: n[0], Heat: spanAt(n, 5), Grass: spanAt(n, 7)}
	c.spends(day, api.Trek{Days: exactly(1), East: spanAt(n, 1), North: spanAt(n, 3)}, true)
}

func (c *company) rests(n []int) {
	c.spends(api.March{Heat: spanAt(n, 0), Grass: spanAt(n, 2)}, api.Trek{}, false)
}

// spends has a day go by, on the way or not.
func (c *company) spends(day api.March, trek api.Trek, onWay bool) {
	refuseIf(c.Day == api.MaxDay-1, api.ErrFull)
	_, _, wrong := camel.Cost(c.Breed, false, day)
	area, far := guide.March(c.Area, trek)
	refuseIf(wrong != api.OK || far == api.ErrTrek || onWay && day.Hours == 0, api.ErrBad)
	packs, old := load.Jolted(c.Packs, c.Ties, nil, 1)
	refuseIf(old != api.OK, api.ErrFull)
	loads := make([]api.Span, len(c.Camels))
	if onWay {
		// Whoever is ready can carry its load, so this is no heavier than that of a day may be.
		c.needReady()
		loads = loadsOf(c.Company)
	}
	camels := c.after(day, loads)
	refuseIf(far == api.ErrFull, api.ErrFull)
	c.Day, c.Area, c.Camels, c.Packs = c.Day+1, area, camels, packs
}

// needReady refuses to go unless each animal can go for sure with its load.
func (c *company) needReady() {
	for i, ready := range readyOf(c.Company) {
		doubtIf(ready != api.KnownYes, "weak", i)
	}
}

// after returns the animals after a day with their loads, on which each of them lives for sure.
func (c *company) after(day api.March, loads []api.Span) []api.Camel {
	var next []api.Camel
	for i, animal := range c.Camels {
		day.Load = loads[i].Hi
		heavy, fate, e := camel.After(c.Breed, animal, day)
		doubtIf(e != api.OK || fate != api.FateLives, "dies", i)
		day.Load = loads[i].Lo
		light, _, _ := camel.After(c.Breed, animal, day)
		next = append(next, either(light, heavy))
	}
	return next
}

// either returns what is known of an animal that is like one of two, or between them.
func either(a, b api.Camel) api.Camel {
	return api.Camel{
		Water: around(a.Water, b.Water),
		Fat:   around(a.Fat, b.Fat),
		Sore:  around(a.Sore, b.Sore),
		Milks: a.Milks,
	}
}

func (c *company) seesMark(n []int) {
	c.sees(api.Sight{Kind: api.SightMark, X: n[0], Y: n[1], From: api.Course{X: n[2], Y: n[3]}, To: api.Course{X: n[4], Y: n[5]}})
}

func (c *company) seesStar(n []int) { c.sees(api.Sight{Kind: api.SightStar, North: spanAt(n, 0)}) }

func (c *company) seesNear(n []int) {
	c.sees(api.Sight{Kind: api.SightNear, X: n[0], Y: n[1], Far: n[2]})
}

func (c *company) sees(l api.Sight) {
	area, e := guide.See(c.Area, l)
	refuseIf(e == api.ErrSight, api.ErrBad)
	refuseIf(e == api.ErrFull, api.ErrFull)
	doubtIf(e == api.ErrLost, "lost")
	c.Area = area
}

func (c *company) drinks(n []int) {
	refuseIf(!isIndex(n[0], c.Land.Wells), api.ErrBad)
	refuseIf(len(c.Draws) == api.MaxDraws, api.ErrFull)
	well := c.Land.Wells[n[0]]
	near, _ := guide.Near(c.Area, well.X, well.Y, api.Reachable)
	doubtIf(near != api.KnownYes, "far")
	need, _ := camel.Thirst(c.Breed, c.Camels)
	has, _, _ := way.Water(c.Land, n[0], c.Draws, c.Day+1)
	doubtIf(need.Hi > has.Lo, "dry")
	c.Draws = with(c.Draws, api.Draw{Well: n[0], Day: c.Day, Water: need.Hi})
	for i := range c.Camels {
		c.Camels[i].Water = exactly(c.Breed.Full)
	}
}

func (c *company) stumbles(n []int) {
	refuseIf(!isIndex(n[0], c.Ties) || !inRange(n[1], 0, api.MaxHurt), api.ErrBad)
	packs, e := load.Jolted(c.Packs, c.Ties, []api.Jolt{{Tie: n[0], Hurt: n[1]}}, 0)
	refuseIf(e == api.ErrFull, api.ErrFull)
	c.Packs = packs
}

func (c *company) settles(n []int) {
	refuseIf(!isIndex(n[0], c.Ties), api.ErrBad)
	tie := c.Ties[n[0]]
	moved, e := load.Settle(c.Packs, tie, c.Bound)
	doubtIf(e == api.ErrUneven, "uneven")
	var sides [2][]int
	for side, packs := range [2][]int{tie.Left, tie.Right} {
		for _, pack := range packs {
			to := side
			if slices.Contains(moved, pack) {
				to = 1 - side
			}
			sides[to] = append(sides[to], pack)
		}
	}
	for _, packs := range sides {
		slices.Sort(packs)
	}
	c.Ties[n[0]].Left, c.Ties[n[0]].Right = sides[0], sides[1]
}

func (c *company) counts(n []int) {
	refuseIf(len(c.Rows) == api.MaxRows, api.ErrFull)
	rows := with(c.Rows, rowOf(n))
	_, _, _, e := brand.Tally(c.First, rows)
	refuseIf(e == api.ErrRow, api.ErrBad)
	doubtIf(e == api.ErrTally, "tally")
	c.Rows = rows
}

func (c *company) hears(n []int) {
	refuseIf(len(c.Letters) == api.MaxLetters, api.ErrFull)
	refuseIf(!areOfLetter(n), api.ErrBad)
	letters := with(c.Letters, letterOf(n))
	_, _, e := share.Read(c.Pact, letters)
	refuseIf(e == api.ErrLetters, api.ErrBad)
	doubtIf(e == api.ErrTwo, "two")
	c.Letters = letters
}
