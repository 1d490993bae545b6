package way

import (
	"iter"
	"slices"

	"azalai/api"
)

// across returns the well to which a leg leads from another one, and whether it has an end there.
func across(leg api.Leg, well int) (int, bool) {
	switch well {
	case leg.From:
		return leg.To, true
	case leg.To:
		return leg.From, true
	}
	return 0, false
}

// legsAt yields the legs at a well, and where each of them leads to from there.
func (c caravan) legsAt(well int) iter.Seq2[int, int] {
	return func(yield func(int, int) bool) {
		for i, leg := range c.Legs {
			if other, ok := across(leg, well); ok && !yield(i, other) {
				return
			}
		}
	}
}

// breaks returns the place of the first of some legs that is none, or not at the well where one is then, and whether there is one.
func (c caravan) breaks(legs []int) (at int, ok bool) {
	well := c.well
	for at, leg := range legs {
		if !isIndex(leg, c.Legs) {
			return at, true
		}
		if well, ok = across(c.Legs[leg], well); !ok {
			return at, true
		}
	}
	return 0, false
}

// reaches returns for each well the first day on which one is there, at best or for sure, by whatever way. Each leg takes a day at least, and who leaves later does not arrive earlier: so no way through another open well leads to the nearest one earlier.
func (c caravan) reaches(kind int) []int {
	open := map[int]int{}
	for well := range c.Wells {
		open[well] = api.Never
	}
	open[c.well] = c.since[kind]
	reached := make([]int, len(c.Wells))
	for len(open) > 0 {
		well := nearest(open)
		day := open[well]
		delete(open, well)
		reached[well] = day
		for leg, other := range c.legsAt(well) {
			if _, ok := open[other]; ok {
				arrives := c.arrives(leg, c.leaves(leg, exactly(day)))
				open[other] = first(open[other], arrives[kind])
			}
		}
	}
	return reached
}

// nearest returns the well with the first day; of several ones the one of the least index, so that the map's order does not matter.
func nearest(days map[int]int) int {
	best, found := 0, false
	for well, day := range days {
		if !found || day < days[best] || day == days[best] && well < best {
			best, found = well, true
		}
	}
	return best
}

// ways yields all sure ways to a well, until a day, that visit none twice, in order.
func (c caravan) ways(to, until int) iter.Seq[[]int] {
	return func(yield func([]int) bool) {
		visited := make([]bool, len(c.Wells))
		// It tells whether more ways are wanted.
		var follow func(now caravan, legs []int) bool
		follow = func(now caravan, legs []int) bool {
			if now.since[forSure] > until {
				return true
			}
			if now.well == to {
				return yield(legs)
			}
			visited[now.well] = true
			defer func() { visited[now.well] = false }()
			for leg, other := range now.legsAt(now.well) {
				if visited[other] {
					continue
				}
				if stop, sure := now.goes(leg); sure && !follow(now.after(stop), with(legs, leg)) {
					return false
				}
			}
			return true
		}
		follow(c, nil)
	}
}

// with returns a list with one more, in memory of its own.
func with[T any](list []T, one T) []T { return slices.Concat(list, []T{one}) }
