// Package camel is layer 1: see shared/doc/01-camel.md.
package camel

import (
	"slices"

	"azalai/api"
)

// CheckBreed returns ErrBreed unless a breed is valid (P1.1).
func CheckBreed(b api.Breed) api.Errno {
	switch {
	case b.Full < 1 || b.Full > api.MaxStock || b.Fed < 1 || b.Fed > api.MaxStock:
		return api.ErrBreed
	case !within(api.MaxRate, b.Rest, b.Heat, b.Toil, b.Burn, b.Rub, b.Milk):
		return api.ErrBreed
	case b.Heal < 0 || b.Heal > api.Whole || !within(api.MaxStrong, b.Strong):
		return api.ErrBreed
	}
	return api.OK
}

// CheckCamel returns ErrCamel unless an animal is valid for its breed (P1.1).
func CheckCamel(b api.Breed, c api.Camel) api.Errno {
	if e := CheckBreed(b); e != api.OK {
		return e
	}
	if !within(b.Full, c.Water) || !within(b.Fed, c.Fat) || !within(api.Whole, c.Sore) {
		return api.ErrCamel
	}
	return api.OK
}

// Fitness returns how fit an animal is (P1.1).
func Fitness(b api.Breed, c api.Camel) (api.Span, api.Errno) {
	if e := CheckCamel(b, c); e != api.OK {
		return api.Span{}, e
	}
	return atWork(b, c).fitness(), api.OK
}

// Carries returns what an animal can carry (P1.1).
func Carries(b api.Breed, c api.Camel) (api.Span, api.Errno) {
	if e := CheckCamel(b, c); e != api.OK {
		return api.Span{}, e
	}
	return atWork(b, c).carries(), api.OK
}

// Cost returns how much water an animal loses on a day, and how much fat it burns (P1.2).
func Cost(b api.Breed, milks bool, m api.March) (water, fat api.Span, e api.Errno) {
	if e := CheckBreed(b); e != api.OK {
		return api.Span{}, api.Span{}, e
	}
	if e := checkMarches(m); e != api.OK {
		return api.Span{}, api.Span{}, e
	}
	cost := atWork(b, api.Camel{Milks: milks}).cost(m)
	return cost[ofWater], cost[ofFat], api.OK
}

// After returns an animal after a day, and what is known of whether it lives (P1.3).
func After(b api.Breed, c api.Camel, m api.March) (next api.Camel, fate uint8, e api.Errno) {
	if e := CheckCamel(b, c); e != api.OK {
		return api.Camel{}, 0, e
	}
	if e := checkMarches(m); e != api.OK {
		return api.Camel{}, 0, e
	}
	evening, fate := atWork(b, c).after(m)
	if fate == api.FateDies {
		return api.Camel{}, 0, api.ErrDies
	}
	return evening.camel(), fate, api.OK
}

// Days returns an animal after each of some days, or the first day on which it dies for sure (P1.4).
func Days(b api.Breed, c api.Camel, l []api.March) (all []api.Camel, fate uint8, at int, e api.Errno) {
	if e := checkTrip(b, c, l); e != api.OK {
		return nil, 0, 0, e
	}
	fate = api.FateLives
	for i, d := range atWork(b, c).days(l) {
		if d.fate == api.FateDies {
			return nil, api.FateDies, i, api.ErrDies
		}
		fate = max(fate, d.fate)
		all = append(all, d.evening.camel())
	}
	return all, fate, 0, api.OK
}

// Lasts returns how many days like one an animal lasts (P1.5).
func Lasts(b api.Breed, c api.Camel, m api.March) (api.Span, api.Errno) {
	if e := checkTrip(b, c, []api.March{m}); e != api.OK {
		return api.Span{}, e
	}
	lasts := exactly(api.MaxDays)
	for i, d := range atWork(b, c).days(slices.Repeat([]api.March{m}, api.MaxDays)) {
		if d.fate != api.FateLives {
			lasts.Lo = min(lasts.Lo, i)
		}
		if d.fate == api.FateDies {
			lasts.Hi = i
		}
	}
	return lasts, api.OK
}

// Heaviest returns the greatest load with which an animal lives for sure on some days, and that it can carry (P1.6).
func Heaviest(b api.Breed, c api.Camel, l []api.March) (int, api.Errno) {
	if e := checkTrip(b, c, l); e != api.OK {
		return 0, e
	}
	w := atWork(b, c)
	// A heavier load leaves less water and fat and a sorer back on every morning, so each load below one that is borne is borne too.
	load, ok := greatest(0, api.MaxStrong, func(load int) bool { return w.bears(load, l) })
	if !ok {
		return 0, api.ErrDies
	}
	return load, api.OK
}

// Thirst returns how much water some animals need together until each is full (P1.7).
func Thirst(b api.Breed, l []api.Camel) (api.Span, api.Errno) {
	if e := CheckBreed(b); e != api.OK {
		return api.Span{}, e
	}
	if len(l) > api.MaxTrain {
		return api.Span{}, api.ErrMany
	}
	need := api.Span{}
	for _, c := range l {
		if e := CheckCamel(b, c); e != api.OK {
			return api.Span{}, e
		}
		need.Lo += b.Full - c.Water.Hi
		need.Hi += b.Full - c.Water.Lo
	}
	return need, api.OK
}

// checkTrip returns the error of an animal and the days that it is to go.
func checkTrip(b api.Breed, c api.Camel, l []api.March) api.Errno {
	if e := CheckCamel(b, c); e != api.OK {
		return e
	}
	if len(l) > api.MaxDays {
		return api.ErrMany
	}
	return checkMarches(l...)
}

// checkMarches returns ErrMarch unless all of some days are valid.
func checkMarches(l ...api.March) api.Errno {
	for _, m := range l {
		switch {
		case m.Hours < 0 || m.Hours > api.MaxHours || m.Load < 0 || m.Load > api.MaxStrong:
			return api.ErrMarch
		case !within(api.MaxHeat, m.Heat) || !within(api.MaxStock, m.Grass, m.Drinks):
			return api.ErrMarch
		}
	}
	return api.OK
}
