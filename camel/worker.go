package camel

import (
	"iter"

	"azalai/api"
)

// What an animal has, and a day changes.
const (
	ofWater = iota
	ofFat
	ofSore
	things
)

// Divisors of the chapter: a burden is hours times the animal's own weight and the load, a rub hours times the load.
const (
	ownWeight = 100000
	rubWeight = 1000000
)

// worker is an animal at work: its breed, what it has of each thing, and whether it gives milk.
type worker struct {
	api.Breed
	has   [things]api.Span
	milks bool
}

// workday is a day of an animal: what it is like in the morning, and, unless it dies, in the evening.
type workday struct {
	march            api.March
	morning, evening worker
	fate             uint8
}

func atWork(b api.Breed, c api.Camel) worker {
	return worker{Breed: b, has: [things]api.Span{ofWater: c.Water, ofFat: c.Fat, ofSore: c.Sore}, milks: c.Milks}
}

// camel returns what is known of an animal, without its breed.
func (w worker) camel() api.Camel {
	return api.Camel{Water: w.has[ofWater], Fat: w.has[ofFat], Sore: w.has[ofSore], Milks: w.milks}
}

func (w worker) fitness() api.Span {
	twice := exactly(2 * api.Whole)
	water := scaled(w.Full, w.has[ofWater], twice)
	fat := scaled(w.Fed, w.has[ofFat], twice)
	sound := less(exactly(api.Whole), w.has[ofSore])
	return api.Span{
		Lo: min(api.Whole, water.Lo, fat.Lo, sound.Lo),
		Hi: min(api.Whole, water.Hi, fat.Hi, sound.Hi),
	}
}

func (w worker) carries() api.Span { return scaled(api.Whole, w.Strong, w.fitness()) }

// cost returns how much water and fat a day takes, and how much sorer it makes an animal.
func (w worker) cost(m api.March) [things]api.Span {
	heat := api.Span{Lo: max(0, m.Heat.Lo-api.Cool), Hi: max(0, m.Heat.Hi-api.Cool)}
	burden := exactly(m.Hours * (ownWeight + m.Load))
	water := sum(w.Rest, scaled(1, w.Heat, heat), scaled(ownWeight, w.Toil, burden))
	if w.milks {
		water = sum(water, w.Milk)
	}
	return [things]api.Span{
		ofWater: water,
		ofFat:   scaled(ownWeight, w.Burn, burden),
		ofSore:  scaled(rubWeight, w.Rub, exactly(m.Hours*m.Load)),
	}
}

// after returns an animal in the evening of a day, and its fate; one that dies for sure has no evening.
func (w worker) after(m api.March) (evening worker, fate uint8) {
	cost := w.cost(m)
	fate = api.FateLives
	for thing := range ofSore {
		if w.has[thing].Hi < cost[thing].Lo {
			return worker{}, api.FateDies
		}
		if w.has[thing].Lo < cost[thing].Hi {
			fate = api.FateOpen
		}
	}
	heals := 0
	if m.Hours == 0 {
		heals = w.Heal
	}
	evening = w
	evening.has = [things]api.Span{
		ofWater: refilled(w.has[ofWater], cost[ofWater], m.Drinks, w.Full),
		ofFat:   refilled(w.has[ofFat], cost[ofFat], m.Grass, w.Fed),
		ofSore:  clamped(less(sum(w.has[ofSore], cost[ofSore]), exactly(heals)), api.Whole),
	}
	return evening, fate
}

// refilled returns what an animal that lives has after it lost some and got some: it had none too little before it got any.
func refilled(has, cost, gets api.Span, most int) api.Span {
	return clamped(sum(clamped(less(has, cost), most), gets), most)
}

// days yields the days of an animal with their indices, up to the first one on which it dies for sure.
func (w worker) days(l []api.March) iter.Seq2[int, workday] {
	return func(yield func(int, workday) bool) {
		morning := w
		for i, m := range l {
			evening, fate := morning.after(m)
			if !yield(i, workday{m, morning, evening, fate}) || fate == api.FateDies {
				return
			}
			morning = evening
		}
	}
}

// bears tells whether an animal lives for sure on all of some days with one load in place of theirs, and can carry it on each of them on which it walks.
func (w worker) bears(load int, l []api.March) bool {
	loaded := make([]api.March, len(l))
	for i, m := range l {
		m.Load = load
		loaded[i] = m
	}
	for _, d := range w.days(loaded) {
		if d.fate != api.FateLives || d.march.Hours > 0 && load > d.morning.carries().Lo {
			return false
		}
	}
	return true
}
