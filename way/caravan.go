package way

import "azalai/api"

// caravan is a caravan at work in a land: its pace, and at which well it is, since when.
type caravan struct {
	api.Land
	pace  api.Span
	well  int
	since known
}

// atPace returns a caravan that is not yet anywhere, or the error of its land or of its pace.
func atPace(l api.Land, pace api.Span) (caravan, api.Errno) {
	if e := Check(l); e != api.OK {
		return caravan{}, e
	}
	if !validSpan(pace, 1, api.MaxPace) {
		return caravan{}, api.ErrPace
	}
	return caravan{Land: l, pace: pace}, api.OK
}

// atWork returns a caravan that is at a well since a day, or the first error of what it is made of.
func atWork(l api.Land, from, day int, pace api.Span) (caravan, api.Errno) {
	c, e := atPace(l, pace)
	if e != api.OK {
		return caravan{}, e
	}
	if !isIndex(from, l.Wells) || !validDay(day) {
		return caravan{}, api.ErrArg
	}
	c.well, c.since = from, exactly(day)
	return c, api.OK
}

// days returns how many days a leg takes.
func (c caravan) days(leg int) known {
	long := c.Legs[leg].Long
	return known{atBest: divided(long.Lo, c.pace.Hi), forSure: divided(long.Hi, c.pace.Lo)}
}

// leaves returns the first days, from some days on, on which one may leave for a leg, and can do so for sure.
func (c caravan) leaves(leg int, since known) known {
	takes := c.days(leg)
	leaves := exactly(api.Never)
	for _, g := range c.Legs[leg].Gates {
		opens := known{atBest: g.Opens.Lo, forSure: g.Opens.Hi}
		shuts := known{atBest: g.Shuts.Hi, forSure: g.Shuts.Lo}
		for kind := range kinds {
			day := max(since[kind], opens[kind])
			if day+takes[kind]-1 <= shuts[kind] {
				leaves[kind] = first(leaves[kind], day)
			}
		}
	}
	return leaves
}

// arrives returns the days after the last ones of a leg that is left as soon as one can.
func (c caravan) arrives(leg int, leaves known) known {
	arrives := c.days(leg)
	for kind := range kinds {
		arrives[kind] = first(leaves[kind] + arrives[kind])
	}
	return arrives
}

// goes returns the stop of a leg at the well where the caravan is, and whether one arrives for sure.
func (c caravan) goes(leg int) (api.Stop, bool) {
	well, _ := across(c.Legs[leg], c.well)
	leaves := c.leaves(leg, c.since)
	arrives := c.arrives(leg, leaves)
	stop := api.Stop{Leg: leg, Well: well, Leaves: leaves.span(), Arrives: arrives.span()}
	return stop, arrives[forSure] <= api.MaxDay
}

// after returns the caravan after a stop.
func (c caravan) after(s api.Stop) caravan {
	c.well, c.since = s.Well, known{atBest: s.Arrives.Lo, forSure: s.Arrives.Hi}
	return c
}
