package guide

import (
	"slices"

	"azalai/api"
)

// sight is a look at work.
type sight api.Sight

func validSight(l api.Sight) bool {
	switch l.Kind {
	case api.SightMark:
		return validPlace(l.X, l.Y) && validCourse(l.From) && validCourse(l.To) && turnsLeft(l.From, l.To)
	case api.SightStar:
		return validSpan(l.North, -api.MaxPlace, api.MaxPlace)
	case api.SightNear:
		return validPlace(l.X, l.Y) && inRange(l.Far, 0, api.MaxPlace)
	}
	return false
}

func validPlace(x, y int) bool {
	return inRange(x, -api.MaxPlace, api.MaxPlace) && inRange(y, -api.MaxPlace, api.MaxPlace)
}

func validCourse(c api.Course) bool {
	return inRange(c.X, -api.MaxPart, api.MaxPart) && inRange(c.Y, -api.MaxPart, api.MaxPart)
}

// turnsLeft tells whether one turns to the left, by less than half a circle, from a direction to another one.
func turnsLeft(from, to api.Course) bool { return from.X*to.Y-from.Y*to.X > 0 }

// halvesOf returns the halves of a valid look.
func halvesOf(l api.Sight) []api.Half {
	kinds := [...]func(sight) []api.Half{
		api.SightMark: sight.mark,
		api.SightStar: sight.star,
		api.SightNear: sight.near,
	}
	return kinds[l.Kind](sight(l))
}

func (s sight) mark() []api.Half {
	return []api.Half{
		{A: -s.From.Y, B: s.From.X, C: s.From.X*s.Y - s.From.Y*s.X},
		{A: s.To.Y, B: -s.To.X, C: s.To.Y*s.X - s.To.X*s.Y},
	}
}

func (s sight) star() []api.Half {
	return []api.Half{{A: 0, B: 1, C: s.North.Hi}, {A: 0, B: -1, C: -s.North.Lo}}
}

func (s sight) near() []api.Half {
	return sides(api.Span{Lo: s.X - s.Far, Hi: s.X + s.Far}, api.Span{Lo: s.Y - s.Far, Hi: s.Y + s.Far})
}

// contradict tells whether no place of an area is in the halves of all looks that are named.
func contradict(a api.Area, looks []api.Sight, named []int) bool {
	halves := slices.Clone(a.Halves)
	for _, i := range named {
		halves = append(halves, halvesOf(looks[i])...)
	}
	return !hasPlace(halves)
}
