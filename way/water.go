package way

import "azalai/api"

// validDraws tells whether draws are valid, in the order of their days.
func validDraws(draws []api.Draw, wells []api.Well) bool {
	before := 0
	for _, d := range draws {
		if !isIndex(d.Well, wells) || !inRange(d.Day, before, api.MaxDay) || !inRange(d.Water, 0, api.MaxWater) {
			return false
		}
		before = d.Day
	}
	return true
}

// filled returns what a well has after some days of its yield, without draws. What runs over on a day is not missed later, so all days can be added at once.
func filled(w api.Well, days int) api.Span {
	return api.Span{
		Lo: min(w.Room, w.Has.Lo+days*w.Yield.Lo),
		Hi: min(w.Room, w.Has.Hi+days*w.Yield.Hi),
	}
}
