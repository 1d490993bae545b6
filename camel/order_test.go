package camel_test

import (
	"math/rand/v2"
	"slices"
	"testing"

	"azalai/api"
	"azalai/camel"
)

// within returns a span in another one.
func within(r *rand.Rand, s api.Span) api.Span {
	lo := s.Lo + r.IntN(s.Hi-s.Lo+1)
	return span(lo, lo+r.IntN(s.Hi-lo+1))
}

func holds(wide, narrow api.Span) bool { return wide.Lo <= narrow.Lo && narrow.Hi <= wide.Hi }

func holdsCamel(wide, narrow api.Camel) bool {
	return holds(wide.Water, narrow.Water) && holds(wide.Fat, narrow.Fat) && holds(wide.Sore, narrow.Sore)
}

func betterKnown(r *rand.Rand, b api.Breed, c api.Camel, l []api.March) (api.Breed, api.Camel, []api.March) {
	for _, f := range breedSpans() {
		*f.of(&b) = within(r, *f.of(&b))
	}
	for _, f := range camelSpans() {
		*f.of(&c) = within(r, *f.of(&c))
	}
	l = slices.Clone(l)
	for i := range l {
		for _, f := range marchSpans() {
			*f.of(&l[i]) = within(r, *f.of(&l[i]))
		}
	}
	return b, c, l
}

// P1.12: what is known better is told no wider.
func TestKnownBetter(t *testing.T) {
	r := rand.New(rand.NewPCG(1, 12))
	for range 4000 {
		b, c, l := randomTrip(r)
		l = append(l, randomMarch(r))
		b2, c2, l2 := betterKnown(r, b, c, l)
		fit, _ := camel.Fitness(b, c)
		fit2, _ := camel.Fitness(b2, c2)
		load, _ := camel.Carries(b, c)
		load2, _ := camel.Carries(b2, c2)
		water, fat, _ := camel.Cost(b, c.Milks, l[0])
		water2, fat2, _ := camel.Cost(b2, c.Milks, l2[0])
		lasts, _ := camel.Lasts(b, c, l[0])
		lasts2, _ := camel.Lasts(b2, c2, l2[0])
		need, _ := camel.Thirst(b, []api.Camel{c})
		need2, _ := camel.Thirst(b2, []api.Camel{c2})
		if !holds(fit, fit2) || !holds(load, load2) || !holds(water, water2) || !holds(fat, fat2) || !holds(lasts, lasts2) || !holds(need, need2) {
			t.Fatal(b, c, l[0], b2, c2, l2[0])
		}
		all, fate, at, e := camel.Days(b, c, l)
		all2, fate2, at2, e2 := camel.Days(b2, c2, l2)
		if e == api.ErrDies && (e2 != api.ErrDies || at2 > at) || fate == api.FateLives && fate2 != api.FateLives {
			t.Fatal(b, c, l, fate, at, b2, c2, l2, fate2, at2)
		}
		if e == api.OK && e2 == api.OK && !slices.EqualFunc(all, all2, holdsCamel) {
			t.Fatal(b, c, l, all, b2, c2, l2, all2)
		}
		most, e := camel.Heaviest(b, c, l)
		if most2, e2 := camel.Heaviest(b2, c2, l2); e == api.OK && (e2 != api.OK || most2 < most) {
			t.Fatal(b, c, l, most, b2, c2, l2, most2)
		}
	}
}

// noWorse tells whether an animal has at least as much water and fat as another one, and is no sorer, at best and at worst.
func noWorse(better, worse api.Camel) bool {
	return better.Water.Lo >= worse.Water.Lo && better.Water.Hi >= worse.Water.Hi &&
		better.Fat.Lo >= worse.Fat.Lo && better.Fat.Hi >= worse.Fat.Hi &&
		better.Sore.Lo <= worse.Sore.Lo && better.Sore.Hi <= worse.Sore.Hi
}

// P1.12: a lighter load, shorter hours, and more water leave no animal worse.
func TestEasierDays(t *testing.T) {
	r := rand.New(rand.NewPCG(2, 12))
	easier := []func(*api.March){
		func(m *api.March) { m.Load = r.IntN(m.Load + 1) },
		func(m *api.March) { m.Hours = r.IntN(m.Hours + 1) },
		func(m *api.March) { m.Drinks.Lo, m.Drinks.Hi = m.Drinks.Lo+3, m.Drinks.Hi+3+r.IntN(200) },
	}
	for i := range 6000 {
		b, c, l := randomTrip(r)
		l = append(l, randomMarch(r))
		l2 := slices.Clone(l)
		easier[i%3](&l2[r.IntN(len(l2))])
		all, fate, at, e := camel.Days(b, c, l)
		all2, fate2, at2, e2 := camel.Days(b, c, l2)
		if fate2 > fate || e == api.OK && e2 != api.OK || e2 != api.OK && at2 < at {
			t.Fatal(b, c, l, fate, at, l2, fate2, at2)
		}
		if e == api.OK && !slices.EqualFunc(all2, all, noWorse) {
			t.Fatal(b, c, l, all, l2, all2)
		}
		lasts, _ := camel.Lasts(b, c, with(l[0], easier[i%3]))
		if before, _ := camel.Lasts(b, c, l[0]); before.Lo > lasts.Lo || before.Hi > lasts.Hi {
			t.Fatal(b, c, l[0], before, lasts)
		}
	}
}

// P1.12 for mange: another wait that lies in the first one, and meetings that were close.
func TestMangeKnownBetter(t *testing.T) {
	r := rand.New(rand.NewPCG(3, 12))
	for range 1000 {
		h := randomHerd(r)
		meets := slices.Clone(h.meets)
		for i := range meets {
			meets[i].Close = meets[i].Close || r.IntN(3) == 0
		}
		wait := within(r, h.wait)
		for day := range 20 {
			wide, _ := camel.Mange(h.n, h.first, h.meets, h.wait, day)
			narrow, _ := camel.Mange(h.n, h.first, meets, wait, day)
			for i := range wide {
				if wide[i] != api.KnownOpen && wide[i] != narrow[i] {
					t.Fatal(h, day, wide, meets, wait, narrow)
				}
			}
		}
	}
}
