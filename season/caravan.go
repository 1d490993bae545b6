package season

import (
	"iter"
	"slices"

	"azalai/api"
	"azalai/camel"
	"azalai/way"
)

// caravan is that of a season on its way in one of its scenes: the stops, and how many slabs each animal carries.
type caravan struct {
	api.Season
	api.Scene
	stops []api.Stop
	slabs int
}

// inScene returns a caravan in a scene; in its land the yields of the wells are the scene's.
func inScene(s api.Season, scene api.Scene, stops []api.Stop, slabs int) caravan {
	s.Land.Wells = slices.Clone(s.Land.Wells)
	for well, yield := range scene.Yields {
		s.Land.Wells[well].Yield = yield
	}
	return caravan{s, scene, stops, slabs}
}

// arrivals yields how an animal arrives at each stop, before it drinks, with the place of the stop. It panics with the fault of the first leg that is not borne.
func (c caravan) arrivals() iter.Seq2[int, api.Camel] {
	return func(yield func(int, api.Camel) bool) {
		animal := c.Camel
		// Without legs this is all that has to be so; otherwise it is so on the first day of the first leg.
		c.lifts(animal, 0)
		for at := range c.stops {
			animal = c.crosses(animal, at)
			if !yield(at, animal) {
				return
			}
			animal.Water = exactly(c.Breed.Full)
		}
	}
}

// crosses returns how an animal arrives that goes one of the legs.
func (c caravan) crosses(animal api.Camel, at int) api.Camel {
	days, _ := way.Days(c.Land, c.stops[at].Leg, c.Pace)
	arrives := animal
	for day := range days.Hi {
		next := c.marches(animal, at)
		if next == animal {
			// So it stays on all later days, of which there may be very many.
			break
		}
		animal = next
		if day < days.Lo {
			arrives = animal
		} else {
			arrives = either(arrives, animal)
		}
	}
	return arrives
}

// either returns what is known of an animal that is like one of two.
func either(a, b api.Camel) api.Camel {
	return api.Camel{
		Water: around(a.Water, b.Water),
		Fat:   around(a.Fat, b.Fat),
		Sore:  around(a.Sore, b.Sore),
		Milks: a.Milks,
	}
}

// marches returns an animal after a day on one of the legs.
func (c caravan) marches(animal api.Camel, at int) api.Camel {
	c.lifts(animal, at)
	day := api.March{Hours: c.Hours, Load: c.load(), Heat: c.Heat, Grass: c.Grass}
	next, fate, e := camel.After(c.Breed, animal, day)
	require(e == api.OK && fate == api.FateLives, api.HoldsDies, at)
	return next
}

// lifts panics unless an animal can carry its slabs for sure. They may be heavier than a day's load may be: then it cannot.
func (c caravan) lifts(animal api.Camel, at int) {
	can, _ := camel.Carries(c.Breed, animal)
	require(c.load() <= can.Lo, api.HoldsWeak, at)
}

func (c caravan) load() int { return c.slabs * c.Slab }

// thirst returns how much water an animal drinks at the most.
func (c caravan) thirst(animal api.Camel) int { return c.Breed.Full - animal.Water.Lo }

// wells returns the stops at which animals drink: all but the goal.
func (c caravan) wells() []api.Stop { return c.stops[:max(0, len(c.stops)-1)] }

// serves returns for how many animals of the herd a stop is enough, if they arrive like one.
func (c caravan) serves(at int, animal api.Camel) int {
	thirst := c.thirst(animal)
	if at >= len(c.wells()) || thirst == 0 {
		return c.Herd
	}
	stop := c.stops[at]
	has, _, _ := way.Water(c.Land, stop.Well, nil, stop.Arrives.Lo)
	return min(c.Herd, has.Lo/thirst)
}

// fault returns why some animals do not go all the way; there has to be one.
func (c caravan) fault(animals int) fault {
	return faultOf(func() {
		for at, animal := range c.arrivals() {
			require(animals <= c.serves(at, animal), api.HoldsDry, at)
		}
	})
}

// most returns how many animals of the herd go all the way at the most.
func (c caravan) most() int {
	animals := c.Herd
	f := faultOf(func() {
		for at, animal := range c.arrivals() {
			if animals = min(animals, c.serves(at, animal)); animals == 0 {
				break
			}
		}
	})
	if f.why != api.HoldsYes {
		return 0
	}
	return animals
}

// draws returns what some animals that go all the way draw at the most.
func (c caravan) draws(animals int) []api.Draw {
	var draws []api.Draw
	for _, stop := range c.wells() {
		draws = append(draws, api.Draw{Well: stop.Well, Day: stop.Arrives.Lo})
	}
	if animals == 0 {
		// An animal might not go all the way.
		return draws
	}
	for at, animal := range c.arrivals() {
		if at < len(draws) {
			draws[at].Water = animals * c.thirst(animal)
		}
	}
	return draws
}
