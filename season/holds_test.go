package season_test

import (
	"math"
	"testing"

	"azalai/api"
	"azalai/season"
)

// P9.1: a way that is sure until the last day.
func TestShut(t *testing.T) {
	shut := fault{why: api.HoldsShut}
	for i, x := range []struct {
		change func(s *api.Season)
		p      api.Plan
		want   fault
	}{
		// It arrives on 25.
		{func(s *api.Season) { s.Until = 25 }, plan(1, 0, 0, 1, 2), fault{}},
		{func(s *api.Season) { s.Until = 24 }, plan(1, 0, 0, 1, 2), shut},
		{func(s *api.Season) { s.Until = 24 }, plan(1, 0, 0, 1), fault{}},
		{func(s *api.Season) { s.Until = 19 }, plan(1, 0, 0, 1), shut},
		{func(s *api.Season) { s.Until = 10 }, plan(1, 0), fault{}},
		// The last arrival may be too late.
		{func(s *api.Season) { s.Until, s.Land.Legs[2].Long = 25, span(4, 6) }, plan(1, 0, 0, 1, 2), shut},
		{func(s *api.Season) { s.Until, s.Land.Legs[2].Long = 26, span(4, 6) }, plan(1, 0, 0, 1, 2), fault{}},
		{func(s *api.Season) { s.Pace = span(1, 2) }, plan(1, 0, 0, 1, 2), fault{}},
		{func(s *api.Season) { s.Pace, s.Until = span(1, 2), 24 }, plan(1, 0, 0, 1, 2), shut},
		{func(s *api.Season) { s.Pace, s.Until = exactly(2), 19 }, plan(1, 0, 0, 1, 2), fault{}},
		{func(s *api.Season) { s.Pace, s.Until = exactly(2), 18 }, plan(1, 0, 0, 1, 2), shut},
		// By gates: one waits, but not for too long, nor for what may never be open.
		{func(s *api.Season) { s.Land.Legs[2].Gates = nil }, plan(1, 0, 0, 1), fault{}},
		{func(s *api.Season) { s.Land.Legs[2].Gates = nil }, plan(1, 0, 0, 1, 2), shut},
		{func(s *api.Season) { s.Land.Legs[0].Gates[0].Shuts = exactly(13) }, plan(1, 0, 0), shut},
		{func(s *api.Season) { s.Land.Legs[0].Gates[0].Shuts = span(13, 99) }, plan(1, 0, 0), shut},
		{func(s *api.Season) { s.Land.Legs[0].Gates[0].Shuts = exactly(14) }, plan(1, 0, 0), fault{}},
		{func(s *api.Season) { s.Land.Legs[2].Gates[0].Opens = span(0, 95) }, plan(1, 0, 0, 1, 2), fault{}},
		{func(s *api.Season) { s.Land.Legs[2].Gates[0].Opens = span(0, 96) }, plan(1, 0, 0, 1, 2), shut},
		// It ends at the end of all days.
		{func(s *api.Season) { s.Day, s.Until = 99985, 100000 }, plan(1, 0, 0, 1, 2), fault{}},
		{func(s *api.Season) { s.Day, s.Until = 99986, 100000 }, plan(1, 0, 0, 1, 2), shut},
		{func(s *api.Season) { s.Day, s.Until = 100000, 100000 }, plan(1, 0), fault{}},
		{func(s *api.Season) { s.Day, s.Until = 100000, 100000 }, plan(1, 0, 0), shut},
		// Also with nobody, or with those who are too weak, from the first leg on and in each scene.
		{func(s *api.Season) { s.Until = 24 }, plan(0, 0, 0, 1, 2), shut},
		{func(s *api.Season) { s.Until = 24 }, plan(10, 12, 0, 1, 2), shut},
		{func(s *api.Season) { s.Until, s.Camel = 24, api.Camel{} }, plan(1, 0, 0, 1, 2), shut},
		{func(s *api.Season) { s.Until, s.Scenes = 24, append(s.Scenes, s.Scenes[0]) }, plan(1, 0, 0, 1, 2), shut},
		{func(s *api.Season) { s.Until = 25 }, plan(0, 12, 0, 1, 2), fault{}},
	} {
		if (call{s: changed(x.change), p: x.p}).wantHeld(t, x.want); t.Failed() {
			t.Fatal(i)
		}
	}
}

// firstLeg returns a road whose first leg takes so many days.
func firstLeg(days api.Span) api.Season {
	return changed(func(s *api.Season) { s.Land.Legs[0].Long = days })
}

// P9.1: on each day as much as an animal can carry that morning, and it lives. Of a tenth less each morning it can carry 10 slabs up to the sixth day, then 8, 6, 4, 2 and none.
func TestBorne(t *testing.T) {
	weak, dies := fault{why: api.HoldsWeak}, fault{why: api.HoldsDies}
	for i, x := range []struct {
		days, slabs int
		want        fault
	}{
		{1, 10, fault{}}, {1, 11, weak}, {1, 12, weak},
		{6, 10, fault{}}, {7, 10, weak}, {7, 9, weak}, {7, 8, fault{}},
		{8, 8, weak}, {8, 6, fault{}},
		{10, 2, fault{}}, {10, 3, weak}, {10, 0, fault{}},
		{11, 0, dies}, {11, 1, weak}, {11, 2, weak},
		{90, 0, dies}, {90, 5, weak},
	} {
		(call{s: firstLeg(exactly(x.days)), p: plan(1, x.slabs, 0)}).wantHeld(t, x.want)
		// As many days as it may take count.
		(call{s: firstLeg(span(1, x.days)), p: plan(1, x.slabs, 0)}).wantHeld(t, x.want)
		if t.Failed() {
			t.Fatal(i)
		}
	}
	// On a day on which it may die it may also be too weak, or be so on a later one only.
	for i, x := range []struct {
		rest, days, slabs int
		want              fault
	}{
		// 1,000, 700, 400 and 100 in the morning.
		{300, 3, 8, fault{}}, {300, 3, 9, weak}, {300, 4, 2, dies}, {300, 4, 3, weak}, {300, 5, 2, dies}, {300, 5, 0, dies},
		{500, 2, 10, fault{}}, {500, 3, 0, dies}, {500, 3, 1, weak},
		{1000, 1, 10, fault{}}, {1001, 1, 10, dies}, {1001, 1, 11, weak}, {1001, 2, 10, dies},
	} {
		s := firstLeg(exactly(x.days))
		s.Breed.Rest = span(0, x.rest)
		if (call{s: s, p: plan(1, x.slabs, 0)}).wantHeld(t, x.want); t.Failed() {
			t.Fatal(i)
		}
	}
}

// P9.1: what an animal can carry to the gram, by all that makes it fit, and the load beyond what a day can have.
func TestWeak(t *testing.T) {
	weak := fault{why: api.HoldsWeak}
	for i, x := range []struct {
		change func(s *api.Season)
		slabs  int
		want   fault
	}{
		{func(s *api.Season) { s.Slab = 333 }, 3, fault{}},
		{func(s *api.Season) { s.Slab = 334 }, 3, weak},
		{func(s *api.Season) { s.Breed.Strong = span(999, 5000) }, 10, weak},
		{func(s *api.Season) { s.Breed.Strong = span(1000, 5000) }, 10, fault{}},
		{func(s *api.Season) { s.Breed.Strong = api.Span{} }, 0, fault{}},
		{func(s *api.Season) { s.Breed.Strong = api.Span{} }, 1, weak},
		{func(s *api.Season) { s.Camel.Sore = span(0, 100) }, 9, fault{}},
		{func(s *api.Season) { s.Camel.Sore = span(0, 101) }, 9, weak},
		{func(s *api.Season) { s.Camel.Fat = span(450, 1000) }, 9, fault{}},
		{func(s *api.Season) { s.Camel.Fat = span(449, 1000) }, 9, weak},
		{func(s *api.Season) { s.Slab = 1000000 }, 1, weak},
		{func(s *api.Season) { s.Slab, s.Breed.Strong = 1000000, exactly(1000000) }, 1, fault{}},
		{func(s *api.Season) { s.Slab, s.Breed.Strong = 1000000, exactly(1000000) }, 2, weak},
		{func(s *api.Season) { s.Slab, s.Breed.Strong = 1000000, exactly(1000000) }, 12, weak},
		{func(s *api.Season) { s.Slab, s.Breed.Strong = 83333, exactly(1000000) }, 12, fault{}},
		{func(s *api.Season) { s.Slab, s.Breed.Strong = 83334, exactly(1000000) }, 12, weak},
	} {
		// Without legs it has to be able to carry them as it is.
		s := changed(x.change)
		call{s: s, p: plan(1, x.slabs)}.wantHeld(t, x.want)
		call{s: s, p: plan(0, x.slabs)}.wantHeld(t, fault{})
		if (call{s: s, p: plan(1, x.slabs, 0)}).wantHeld(t, x.want); t.Failed() {
			t.Fatal(i)
		}
	}
	// Without legs it does not have to live on any day.
	s := changed(func(s *api.Season) { s.Breed.Rest, s.Camel = exactly(9999), api.Camel{} })
	call{s: s, p: plan(1, 0)}.wantHeld(t, fault{})
	call{s: s, p: plan(1, 1)}.wantHeld(t, weak)
	call{s: s, p: plan(1, 0, 0)}.wantHeld(t, fault{why: api.HoldsDies})
}

// P9.1: a day is as the season, the scene and the plan say. Of five days on the leg the least water and fat in all is asked for with which all of them are borne without slabs.
func TestDaysOfScene(t *testing.T) {
	for i, x := range []struct {
		change     func(s *api.Season)
		water, fat int
	}{
		{nil, 500, 0},
		{func(s *api.Season) { s.Camel.Milks, s.Breed.Milk = true, span(0, 3) }, 515, 0},
		{func(s *api.Season) { s.Camel.Milks, s.Breed.Milk = false, span(0, 3) }, 500, 0},
		{func(s *api.Season) { s.Scenes[0].Heat, s.Breed.Heat = span(0, 27), span(0, 2) }, 570, 0},
		{func(s *api.Season) { s.Scenes[0].Heat, s.Breed.Heat = span(0, 20), span(0, 2) }, 500, 0},
		{func(s *api.Season) { s.Breed.Toil = span(0, 2) }, 600, 0},
		{func(s *api.Season) { s.Hours, s.Breed.Toil = 24, span(0, 2) }, 740, 0},
		{func(s *api.Season) { s.Breed.Burn = span(0, 7) }, 500, 350},
		{func(s *api.Season) { s.Hours, s.Breed.Burn = 1, span(0, 7) }, 500, 35},
		// What it eats in the evening is there on the next days.
		{func(s *api.Season) { s.Breed.Burn, s.Scenes[0].Grass = exactly(7), span(30, 999) }, 500, 230},
		{func(s *api.Season) { s.Breed.Burn, s.Scenes[0].Grass = exactly(7), span(70, 999) }, 500, 70},
		// A leg of fewer days that may be one of as many.
		{func(s *api.Season) { s.Land.Legs[0].Long = span(1, 5); s.Breed.Burn = exactly(7) }, 500, 350},
		{func(s *api.Season) { s.Pace = span(1, 100); s.Breed.Burn = exactly(7) }, 500, 350},
		{func(s *api.Season) { s.Pace = span(2, 100); s.Breed.Burn = exactly(7) }, 300, 210},
	} {
		for _, less := range []struct {
			water, fat int
			want       uint8
		}{{0, 0, api.HoldsYes}, {1, 0, api.HoldsDies}, {0, 1, api.HoldsDies}, {1, 1, api.HoldsDies}} {
			s := changed(x.change)
			s.Camel.Water, s.Camel.Fat = span(x.water-less.water, 1000), span(max(0, x.fat-less.fat), 1000)
			if x.fat == 0 && less.fat > 0 {
				continue
			}
			if (call{s: s, p: plan(1, 0, 0)}).wantHeld(t, fault{why: less.want}); t.Failed() {
				t.Fatal(i)
			}
		}
	}
	// The load counts: ten hours with 100,000 cost twice as much as without.
	s := changed(func(s *api.Season) {
		s.Breed = api.Breed{Full: 1000, Fed: 1000, Toil: exactly(10), Rub: exactly(1), Strong: exactly(1000000)}
		s.Slab = 10000
	})
	call{s: s, p: plan(1, 5, 0)}.wantHeld(t, fault{})
	call{s: s, p: plan(1, 10, 0)}.wantHeld(t, fault{})
	s.Camel.Water.Lo = 999
	call{s: s, p: plan(1, 10, 0)}.wantHeld(t, fault{why: api.HoldsDies})
	call{s: s, p: plan(1, 9, 0)}.wantHeld(t, fault{})
	// Sores of a leg are still there on the next one: 10 a day by ten slabs.
	s = road()
	s.Breed.Rest, s.Breed.Rub = api.Span{}, span(0, 1000)
	call{s: s, p: plan(1, 9, 0, 1, 2)}.wantHeld(t, fault{why: api.HoldsWeak, at: 2})
	call{s: s, p: plan(1, 9, 0, 1)}.wantHeld(t, fault{})
	call{s: s, p: plan(1, 8, 0, 1, 2)}.wantHeld(t, fault{})
}

// P9.1: an animal drinks at each well until it is full; where it begins, and while it waits, it does not, nor is it older.
func TestDrinks(t *testing.T) {
	dies := func(at int) fault { return fault{why: api.HoldsDies, at: at} }
	for i, x := range []struct {
		change func(s *api.Season)
		p      api.Plan
		want   fault
	}{
		{nil, plan(10, 0, 0, 1, 2), fault{}},
		{func(s *api.Season) { s.Camel.Water.Lo = 500 }, plan(10, 0, 0, 1, 2), fault{}},
		{func(s *api.Season) { s.Camel.Water.Lo = 499 }, plan(10, 0, 0, 1, 2), dies(0)},
		{func(s *api.Season) { s.Land.Legs[1].Long = exactly(10) }, plan(10, 0, 0, 1, 2), fault{}},
		{func(s *api.Season) { s.Land.Legs[1].Long = span(1, 11) }, plan(10, 0, 0, 1, 2), dies(1)},
		{func(s *api.Season) { s.Land.Legs[2].Long = exactly(11) }, plan(10, 0, 0, 1, 2), dies(2)},
		// It waits for 70 days.
		{func(s *api.Season) { s.Land.Legs[1].Gates[0].Opens = span(0, 85) }, plan(10, 0, 0, 1, 2), fault{}},
		{func(s *api.Season) {
			s.Land.Legs[0].Gates[0].Opens = exactly(80)
			s.Camel.Water.Lo = 500
		}, plan(10, 0, 0, 1, 2), fault{}},
		// The last leg begins with a full animal, too, but fat is what is left: 30 a day.
		{func(s *api.Season) { s.Breed.Burn, s.Camel.Fat.Lo = exactly(3), 450 }, plan(10, 0, 0, 1, 2), fault{}},
		{func(s *api.Season) { s.Breed.Burn, s.Camel.Fat.Lo = exactly(3), 449 }, plan(10, 0, 0, 1, 2), dies(2)},
		{func(s *api.Season) { s.Breed.Burn, s.Camel.Fat.Lo = exactly(3), 299 }, plan(10, 0, 0, 1, 2), dies(1)},
		// As many days as there may be: 15, and 13.
		{func(s *api.Season) { s.Breed.Burn, s.Camel.Fat.Lo, s.Land.Legs[0].Long = exactly(3), 449, span(1, 5) }, plan(10, 0, 0, 1, 2), dies(2)},
		{func(s *api.Season) { s.Breed.Burn, s.Camel.Fat.Lo, s.Land.Legs[0].Long = exactly(3), 390, span(1, 3) }, plan(10, 0, 0, 1, 2), fault{}},
		{func(s *api.Season) { s.Breed.Burn, s.Camel.Fat.Lo, s.Land.Legs[0].Long = exactly(3), 389, span(1, 3) }, plan(10, 0, 0, 1, 2), dies(2)},
		// Legs are gone both ways.
		{func(s *api.Season) { s.From, s.Land.Legs[1].Long = 3, exactly(11) }, plan(10, 0, 2, 1, 0), dies(1)},
	} {
		if (call{s: changed(x.change), p: x.p}).wantHeld(t, x.want); t.Failed() {
			t.Fatal(i)
		}
	}
}

// P9.1: as much water as all need at the most, in the morning of the first day on which they may arrive.
func TestDry(t *testing.T) {
	at := func(at int) fault { return fault{why: api.HoldsDry, at: at} }
	for i, x := range []struct {
		change func(s *api.Season)
		p      api.Plan
		want   fault
	}{
		// After five days each one needs 500.
		{func(s *api.Season) { s.Land.Wells[1].Has = exactly(5000) }, plan(10, 0, 0, 1, 2), fault{}},
		{func(s *api.Season) { s.Land.Wells[1].Has = span(4999, 10000) }, plan(10, 0, 0, 1, 2), at(0)},
		{func(s *api.Season) { s.Land.Wells[1].Has = span(4999, 10000) }, plan(9, 0, 0, 1, 2), fault{}},
		{func(s *api.Season) { s.Land.Wells[1].Has = span(4500, 10000) }, plan(9, 0, 0, 1, 2), fault{}},
		{func(s *api.Season) { s.Land.Wells[1].Has = span(499, 10000) }, plan(1, 0, 0, 1, 2), at(0)},
		{func(s *api.Season) { s.Land.Wells[1].Has = span(499, 10000) }, plan(0, 0, 0, 1, 2), fault{}},
		{func(s *api.Season) { s.Land.Wells[2].Has = span(4999, 10000) }, plan(10, 0, 0, 1, 2), at(1)},
		// Nobody drinks at the goal, nor where all begins.
		{func(s *api.Season) { s.Land.Wells[0].Has, s.Land.Wells[3].Has = api.Span{}, api.Span{} }, plan(10, 0, 0, 1, 2), fault{}},
		{func(s *api.Season) { s.Land.Wells[1].Has = api.Span{} }, plan(10, 0, 0), fault{}},
		{func(s *api.Season) { s.Land.Wells[2].Has = api.Span{} }, plan(10, 0, 0, 1), fault{}},
		// What it needs is the most, after as many days as may be, and of an animal that began with the least.
		{func(s *api.Season) { s.Land.Legs[0].Long, s.Land.Wells[1].Has = span(1, 7), exactly(7000) }, plan(10, 0, 0, 1), fault{}},
		{func(s *api.Season) { s.Land.Legs[0].Long, s.Land.Wells[1].Has = span(1, 7), exactly(6999) }, plan(10, 0, 0, 1), at(0)},
		{func(s *api.Season) { s.Camel.Water.Lo, s.Land.Wells[1].Has = 700, exactly(8000) }, plan(10, 0, 0, 1), fault{}},
		{func(s *api.Season) { s.Camel.Water.Lo, s.Land.Wells[1].Has = 700, exactly(7999) }, plan(10, 0, 0, 1), at(0)},
		{func(s *api.Season) { s.Breed.Rest, s.Land.Wells[1].Has = span(0, 100), exactly(4999) }, plan(10, 0, 0, 1), at(0)},
		// After the well it is full: it needs no more for what it lacked before.
		{func(s *api.Season) { s.Camel.Water.Lo, s.Land.Wells[2].Has = 500, exactly(5000) }, plan(10, 0, 0, 1, 2), fault{}},
		// What nobody needs does not have to be there.
		{func(s *api.Season) { s.Breed.Rest, s.Land.Wells[1].Has = api.Span{}, api.Span{} }, plan(10, 0, 0, 1, 2), fault{}},
		// On 15 the yields of the days 0 to 14 are there, up to Room, by their Lo, and those of the well do not count.
		{func(s *api.Season) { s.Land.Wells[1].Has, s.Scenes[0].Yields[1] = exactly(500), span(300, 999) }, plan(10, 0, 0, 1, 2), fault{}},
		{func(s *api.Season) { s.Land.Wells[1].Has, s.Scenes[0].Yields[1] = exactly(499), span(300, 999) }, plan(10, 0, 0, 1, 2), at(0)},
		{func(s *api.Season) { s.Land.Wells[1].Has, s.Scenes[0].Yields[1] = exactly(500), span(299, 999) }, plan(10, 0, 0, 1, 2), at(0)},
		{func(s *api.Season) { s.Land.Wells[1] = api.Well{Room: 5000}; s.Scenes[0].Yields[1] = exactly(10000000) }, plan(10, 0, 0, 1, 2), fault{}},
		{func(s *api.Season) { s.Land.Wells[1] = api.Well{Room: 4999}; s.Scenes[0].Yields[1] = exactly(10000000) }, plan(10, 0, 0, 1, 2), at(0)},
		{func(s *api.Season) { s.Land.Wells[1] = api.Well{Room: 5000, Yield: exactly(5000)} }, plan(10, 0, 0, 1, 2), at(0)},
		{func(s *api.Season) {
			s.Land.Wells[1].Yield = exactly(0)
			s.Land.Wells[1].Has, s.Scenes[0].Yields[1] = exactly(500), exactly(300)
		}, plan(10, 0, 0, 1, 2), fault{}},
		// The scene's yields are those of the wells by their indices.
		{func(s *api.Season) { s.Land.Wells[1].Has, s.Scenes[0].Yields[2] = exactly(0), exactly(9999) }, plan(10, 0, 0, 1, 2), at(0)},
		// The first day on which they may arrive counts, also if it is not sure.
		{func(s *api.Season) {
			s.Land.Legs[0].Long = span(2, 5)
			s.Land.Wells[1].Has, s.Scenes[0].Yields[1] = exactly(200), exactly(400)
		}, plan(10, 0, 0, 1), fault{}},
		{func(s *api.Season) {
			s.Land.Legs[0].Long = span(2, 5)
			s.Land.Wells[1].Has, s.Scenes[0].Yields[1] = exactly(199), exactly(400)
		}, plan(10, 0, 0, 1), at(0)},
		{func(s *api.Season) {
			s.Land.Legs[1].Gates[0].Opens = span(20, 50)
			s.Land.Wells[2].Has, s.Scenes[0].Yields[2] = exactly(0), exactly(200)
		}, plan(10, 0, 0, 1, 2), fault{}},
		{func(s *api.Season) {
			s.Land.Legs[1].Gates[0].Opens = span(19, 50)
			s.Land.Wells[2].Has, s.Scenes[0].Yields[2] = exactly(0), exactly(200)
		}, plan(10, 0, 0, 1, 2), at(1)},
	} {
		if (call{s: changed(x.change), p: x.p}).wantHeld(t, x.want); t.Failed() {
			t.Fatal(i)
		}
	}
}

// P9.1: the first scene counts, in it the first leg, and of this first whether it is borne, then whether its well is enough.
func TestOrderOfFaults(t *testing.T) {
	s := road()
	for range 3 {
		s.Scenes = append(s.Scenes, dry(10, 20, 30, 40))
	}
	s.Breed.Heat = exactly(10)
	c := call{s: s, p: plan(10, 4, 0, 1, 2)}
	c.wantHeld(t, fault{})
	for _, x := range []struct {
		change func()
		want   fault
	}{
		// In the heat of 30 an animal loses 200 a day; on the fifth day it carries 4 slabs.
		{func() { s.Scenes[3].Yields, s.Land.Wells[2].Has = make([]api.Span, 4), exactly(4999) }, fault{api.HoldsDry, 0, 1}},
		{func() {
			for i := range 3 {
				s.Scenes[i].Yields[2] = exactly(1000)
			}
		}, fault{api.HoldsDry, 3, 1}},
		{func() { s.Scenes[3].Heat = span(0, 30) }, fault{api.HoldsDry, 3, 1}},
		{func() { s.Land.Wells[1].Has = exactly(9999) }, fault{api.HoldsDry, 3, 0}},
		{func() { s.Scenes[3].Heat.Hi = 31 }, fault{api.HoldsWeak, 3, 0}},
		{func() { c.p.Slabs = 0 }, fault{api.HoldsDies, 3, 0}},
		{func() { s.Scenes[2].Heat, s.Land.Legs[1].Long = exactly(29), exactly(6) }, fault{api.HoldsDies, 2, 1}},
		{func() { c.p.Slabs = 12 }, fault{api.HoldsWeak, 0, 0}},
		{func() { c.p.Slabs = 2 }, fault{api.HoldsWeak, 2, 1}},
		{func() { s.Scenes[1].Heat = exactly(60) }, fault{api.HoldsWeak, 1, 0}},
		{func() { s.Land.Legs[2].Long = exactly(50) }, fault{api.HoldsWeak, 0, 2}},
		{func() { c.p.Slabs = 0 }, fault{api.HoldsDies, 0, 2}},
		{func() { s.Until = 20 }, fault{api.HoldsShut, 0, 0}},
	} {
		x.change()
		c.s = s
		c.wantHeld(t, x.want)
	}
}

// P9.2: the least that is earned in a scene, by the prices of the goal.
func TestWorth(t *testing.T) {
	for i, x := range []struct {
		change func(s *api.Season)
		p      api.Plan
		want   int
	}{
		{nil, plan(0, 0), 600},
		{nil, plan(0, 12, 0, 1), 600},
		{nil, plan(10, 0, 0), 0},
		{nil, plan(10, 10), 0},
		{nil, plan(10, 10, 0), 1000},
		{nil, plan(10, 10, 0, 1), 2000},
		{nil, plan(10, 10, 0, 1, 2), 3000},
		{nil, plan(3, 7, 0, 1, 2), 630 + 420},
		{func(s *api.Season) { s.Sale = 0 }, plan(3, 7, 0, 1, 2), 630},
		{func(s *api.Season) { s.Cost = 0 }, plan(3, 7, 0, 1, 2), 840 + 420},
		// A loss, and one that is greater than what the others bring.
		{func(s *api.Season) { s.Cost = 50 }, plan(3, 7, 0, 1, 2), -210 + 420},
		{func(s *api.Season) { s.Cost = 1000000 }, plan(10, 10, 0, 1, 2), -99996000},
		{func(s *api.Season) { s.Scenes[0].Prices[3] = 0 }, plan(10, 10, 0, 1, 2), -1000},
		{func(s *api.Season) { s.From = 2 }, plan(10, 10, 1), 1000},
		{func(s *api.Season) { s.From = 2 }, plan(10, 10, 1, 0), 0},
		// The least of all scenes, wherever it is.
		{func(s *api.Season) { s.Scenes = append(s.Scenes, dry(0, 0, 0, 39)) }, plan(10, 10, 0, 1, 2), 2900},
		{func(s *api.Season) { s.Scenes = append(s.Scenes, dry(0, 0, 0, 41)) }, plan(10, 10, 0, 1, 2), 3000},
		{func(s *api.Season) { s.Scenes = append(s.Scenes, dry(9, 9, 9, 35), dry(9, 9, 9, 5), dry(9, 9, 9, 44)) }, plan(2, 10, 0, 1, 2), -100 + 480},
		{func(s *api.Season) { s.Scenes = append(s.Scenes, dry(9, 9, 9, 35), dry(9, 9, 9, 5), dry(9, 9, 9, 44)) }, plan(0, 10, 0, 1, 2), 600},
		// The greatest numbers.
		{func(s *api.Season) {
			s.Herd, s.Slab, s.Cost, s.Sale = 30, 83, 0, 1000000
			s.Scenes[0].Prices[1] = 1000000
		}, plan(30, 12, 0), 360000000},
		{func(s *api.Season) { s.Herd, s.Sale = 30, 1000000 }, plan(1, 0), 29000000},
	} {
		if (call{s: changed(x.change), p: x.p}).wantWorth(t, x.want); t.Failed() {
			t.Fatal(i)
		}
	}
}

// P9.2: what is drawn from each well but the goal, at the most.
func TestTakes(t *testing.T) {
	for i, x := range []struct {
		change func(s *api.Season)
		p      api.Plan
		want   []api.Draw
	}{
		{nil, plan(10, 0), nil},
		{nil, plan(10, 0, 0), nil},
		{nil, plan(10, 0, 0, 1), []api.Draw{draw(1, 15, 5000)}},
		{nil, plan(10, 10, 0, 1, 2), []api.Draw{draw(1, 15, 5000), draw(2, 20, 5000)}},
		{nil, plan(3, 0, 0, 1, 2), []api.Draw{draw(1, 15, 1500), draw(2, 20, 1500)}},
		{func(s *api.Season) { s.From = 3 }, plan(3, 0, 2, 1, 0), []api.Draw{draw(2, 15, 1500), draw(1, 20, 1500)}},
		// By the most days, on the first day; the load costs water, too.
		{func(s *api.Season) { s.Land.Legs[0].Long = span(2, 7) }, plan(1, 0, 0, 1, 2), []api.Draw{draw(1, 12, 700), draw(2, 17, 500)}},
		{func(s *api.Season) { s.Camel.Water.Lo, s.Land.Legs[1].Gates[0].Opens = 900, span(40, 60) }, plan(2, 0, 0, 1, 2), []api.Draw{draw(1, 15, 1200), draw(2, 45, 1000)}},
		{func(s *api.Season) { s.Breed.Rest = span(7, 11) }, plan(2, 0, 0, 1, 2), []api.Draw{draw(1, 15, 110), draw(2, 20, 110)}},
		{func(s *api.Season) { s.Breed.Rest = api.Span{} }, plan(2, 0, 0, 1, 2), []api.Draw{draw(1, 15, 0), draw(2, 20, 0)}},
		{func(s *api.Season) { s.Breed.Toil, s.Slab, s.Breed.Strong = exactly(1), 10000, exactly(1000000) }, plan(2, 5, 0, 1, 2), []api.Draw{draw(1, 15, 1150), draw(2, 20, 1150)}},
		// Of no animals 0, also where none would arrive.
		{nil, plan(0, 0), nil},
		{nil, plan(0, 12, 0), nil},
		{nil, plan(0, 12, 0, 1, 2), []api.Draw{draw(1, 15, 0), draw(2, 20, 0)}},
		{func(s *api.Season) { s.Camel, s.Slab = api.Camel{}, 1000000 }, plan(0, 12, 0, 1, 2), []api.Draw{draw(1, 15, 0), draw(2, 20, 0)}},
		{func(s *api.Season) { s.Land.Wells[1] = api.Well{} }, plan(0, 1, 0, 1), []api.Draw{draw(1, 15, 0)}},
	} {
		if (call{s: changed(x.change), p: x.p}).wantTaken(t, x.want...); t.Failed() {
			t.Fatal(i)
		}
	}
	// In each scene it is another heat.
	s := road()
	s.Breed.Heat = exactly(1)
	for heat := range 3 {
		s.Scenes = append(s.Scenes, with(s.Scenes[0], func(c *api.Scene) { c.Heat = span(0, 21+heat) }))
	}
	for scene, water := range list(1000, 1010, 1020, 1030) {
		call{s, plan(2, 1, 0, 1), scene}.wantTaken(t, draw(1, 15, water))
	}
	for scene := range around(0, 3) {
		for _, animals := range list(0, 2) {
			draws, e := season.Takes(s, plan(animals, 1, 0, 1), scene)
			if ok := 0 <= scene && scene <= 3; ok != (e == api.OK) || !ok && (e != api.ErrHold || len(draws) != 0) {
				t.Error(scene, draws, e)
			}
		}
	}
	// That of a scene by which it does not hold is not told, and neither is that of another one.
	s.Scenes[2].Heat = exactly(60)
	s.Breed.Heat = exactly(10)
	for _, scene := range list(0, 1, 2, 3, 4, -1, math.MaxInt) {
		call{s, plan(2, 1, 0, 1), scene}.wantHeld(t, fault{api.HoldsWeak, 2, 0})
	}
}
