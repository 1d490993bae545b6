package season_test

import (
	"testing"

	"azalai/api"
	"azalai/season"
)

// P9.3: the plan with the greatest worth.
func TestBest(t *testing.T) {
	for i, x := range []struct {
		change func(s *api.Season)
		want   api.Plan
		worth  int
	}{
		{nil, plan(10, 10, 0, 1, 2), 3000},
		// All are sold, or as many as there is no water for.
		{func(s *api.Season) { s.Sale = 300 }, plan(0, 0), 3000},
		{func(s *api.Season) { s.Sale = 299 }, plan(10, 10, 0, 1, 2), 3000},
		{func(s *api.Season) { s.Land.Wells[1].Has = exactly(1499) }, plan(2, 10, 0, 1, 2), 600 + 480},
		{func(s *api.Season) { s.Land.Wells[1].Has, s.Sale = exactly(1499), 0 }, plan(10, 10, 0), 1000},
		{func(s *api.Season) { s.Land.Wells[1].Has, s.Land.Wells[2].Has = exactly(3499), exactly(2999) }, plan(5, 10, 0, 1, 2), 1500 + 300},
		{func(s *api.Season) { s.Land.Wells[1].Has, s.Land.Wells[2].Has = exactly(3499), exactly(1999) }, plan(6, 10, 0, 1), 1200 + 240},
		// Where nothing is to be earned.
		{func(s *api.Season) { s.Sale, s.Cost = 0, 40 }, plan(0, 0), 0},
		{func(s *api.Season) { s.Sale, s.Cost = 0, 39 }, plan(10, 10, 0, 1, 2), 100},
		{func(s *api.Season) { s.Scenes[0] = dry(0, 0, 0, 0) }, plan(0, 0), 600},
		// Sold where they begin, if a slab brings more there.
		{func(s *api.Season) { s.Scenes[0].Prices[0] = 41 }, plan(10, 10), 3100},
		{func(s *api.Season) { s.Scenes[0].Prices[0], s.Camel.Water = 41, exactly(0) }, plan(0, 0), 600},
		// As many slabs as are borne on all days, and at most 12.
		{func(s *api.Season) { s.Land.Legs[1].Long = exactly(7) }, plan(10, 8, 0, 1, 2), 2400},
		{func(s *api.Season) { s.Land.Legs[2].Long = exactly(9) }, plan(10, 10, 0, 1), 2000},
		{func(s *api.Season) { s.Land.Legs[2].Long = exactly(8) }, plan(10, 10, 0, 1), 2000},
		{func(s *api.Season) { s.Land.Legs[2].Long = exactly(8); s.Scenes[0].Prices[3] = 44 }, plan(10, 6, 0, 1, 2), 2040},
		{func(s *api.Season) { s.Slab = 80 }, plan(10, 12, 0, 1, 2), 3600},
		{func(s *api.Season) { s.Slab = 1 }, plan(10, 12, 0, 1, 2), 3600},
		// With fewer slabs there is water for more animals, of which each one needs 750 and 250 for each slab: for one with nine, or two with eight, or three with four.
		{func(s *api.Season) {
			s.Breed.Toil, s.Breed.Full, s.Breed.Strong, s.Slab = exactly(5), 5000, exactly(1000000), 100000
			s.Camel.Water, s.Sale = exactly(5000), 0
			s.Land.Wells[1].Has = exactly(5500)
			s.Scenes[0] = dry(0, 0, 30, 0)
		}, plan(2, 8, 0, 1), 320},
		// Until the last day.
		{func(s *api.Season) { s.Until = 24 }, plan(10, 10, 0, 1), 2000},
		{func(s *api.Season) { s.Until = 19 }, plan(10, 10, 0), 1000},
		{func(s *api.Season) { s.Until = 14 }, plan(0, 0), 600},
		{func(s *api.Season) { s.Until, s.Day, s.Sale = 100000, 99995, 0 }, plan(10, 10, 0), 1000},
		// The worst scene counts: for the prices, and for what holds.
		{func(s *api.Season) { s.Scenes = append(s.Scenes, dry(0, 0, 35, 29)) }, plan(10, 10, 0, 1), 2000},
		{func(s *api.Season) {
			s.Scenes = append(s.Scenes, dry(0, 0, 31, 31), dry(0, 0, 30, 38))
			s.Breed.Heat, s.Scenes[1].Heat = exactly(5), exactly(40)
		}, plan(10, 4, 0, 1, 2), 840},
		{func(s *api.Season) { s.From = 2 }, plan(10, 10, 2), 3000},
		{func(s *api.Season) { s.From = 3; s.Scenes[0] = dry(45, 0, 0, 0) }, plan(10, 10, 2, 1, 0), 3500},
		// One well alone.
		{func(s *api.Season) {
			s.Land, s.Scenes = api.Land{Wells: make([]api.Well, 1)}, []api.Scene{dry(17)}
		}, plan(10, 10), 700},
		// The whole herd, and the greatest numbers.
		{func(s *api.Season) { s.Herd, s.Cost, s.Slab, s.Scenes[0].Prices[1] = 30, 0, 1, 1000000 }, plan(30, 12, 0), 360000000},
		{func(s *api.Season) { s.Herd, s.Sale = 30, 1000000 }, plan(0, 0), 30000000},
	} {
		if wantBest(t, changed(x.change), x.want, x.worth); t.Failed() {
			t.Fatal(i)
		}
	}
}

// fan has legs that are gone in a day: 0, 1 and 5 between the wells 0 and 1, 2 between 1 and 2, 3 and 4 between 0 and 2, 6 between 2 and 3.
func fan() api.Season {
	return changed(func(s *api.Season) {
		day := exactly(1)
		s.Land.Legs = []api.Leg{path(0, 1, day), path(0, 1, day), path(1, 2, day), path(0, 2, day), path(2, 0, day), path(1, 0, day), path(3, 2, day)}
		s.Sale = 0
		s.Scenes = []api.Scene{dry(0, 0, 0, 0)}
	})
}

// P9.3: of several plans of the same worth that of the fewest animals, slabs and legs, and the first one.
func TestBestOfSeveral(t *testing.T) {
	for i, x := range []struct {
		change func(s *api.Season)
		want   api.Plan
		worth  int
	}{
		{nil, plan(0, 0), 0},
		{func(s *api.Season) { s.Scenes[0] = dry(10, 10, 10, 10) }, plan(0, 0), 0},
		// As much by those that are sold as by those that go.
		{func(s *api.Season) { s.Scenes[0], s.Sale = dry(30, 30, 30, 30), 200 }, plan(0, 0), 2000},
		{func(s *api.Season) { s.Scenes[0], s.Sale = dry(30, 30, 30, 30), 199 }, plan(10, 10), 2000},
		// Fewest legs, then the first leg.
		{func(s *api.Season) { s.Scenes[0] = dry(0, 30, 0, 0) }, plan(10, 10, 0), 2000},
		{func(s *api.Season) { s.Scenes[0] = dry(0, 0, 30, 0) }, plan(10, 10, 3), 2000},
		{func(s *api.Season) { s.Scenes[0] = dry(0, 30, 30, 0) }, plan(10, 10, 0), 2000},
		{func(s *api.Season) { s.Scenes[0] = dry(0, 0, 30, 30) }, plan(10, 10, 3), 2000},
		{func(s *api.Season) { s.Scenes[0] = dry(0, 0, 0, 30) }, plan(10, 10, 3, 6), 2000},
		{func(s *api.Season) { s.Scenes[0], s.Land.Legs[0].Gates = dry(0, 30, 0, 0), nil }, plan(10, 10, 1), 2000},
		{func(s *api.Season) { s.Scenes[0], s.Land.Legs[3].Gates = dry(0, 0, 30, 0), nil }, plan(10, 10, 4), 2000},
		{func(s *api.Season) {
			s.Scenes[0], s.Land.Legs[3].Gates, s.Land.Legs[4].Gates = dry(0, 0, 30, 0), nil, nil
		}, plan(10, 10, 0, 2), 2000},
		{func(s *api.Season) { s.Scenes[0], s.Land.Legs[3].Gates = dry(0, 0, 0, 30), nil }, plan(10, 10, 4, 6), 2000},
		// Three legs each, whose first ones are 0, 1 and 5.
		{func(s *api.Season) {
			s.Scenes[0], s.Land.Legs[3].Gates, s.Land.Legs[4].Gates = dry(0, 0, 0, 30), nil, nil
		}, plan(10, 10, 0, 2, 6), 2000},
		{func(s *api.Season) {
			s.Scenes[0], s.Land.Legs[3].Gates, s.Land.Legs[4].Gates = dry(0, 0, 0, 30), nil, nil
			s.Land.Legs[0].Long = exactly(11)
		}, plan(10, 10, 1, 2, 6), 2000},
		// A leg of which the animal tires does not do, though it is the first one.
		{func(s *api.Season) { s.Scenes[0], s.Land.Legs[0].Long = dry(0, 30, 0, 0), exactly(7) }, plan(10, 10, 1), 2000},
		{func(s *api.Season) { s.Scenes[0], s.Land.Legs[0].Long = dry(0, 30, 0, 0), span(1, 6) }, plan(10, 10, 0), 2000},
		// The well 1 is near by the well 2 only.
		{func(s *api.Season) {
			s.Scenes[0] = dry(0, 30, 30, 0)
			s.Land.Legs[0].Long, s.Land.Legs[1].Long, s.Land.Legs[5].Long = exactly(40), exactly(40), exactly(40)
		}, plan(10, 10, 3), 2000},
		// Five animals for whom the well 2 has water earn 40 by each slab, or ten 20.
		{func(s *api.Season) {
			s.Scenes[0] = dry(0, 30, 0, 50)
			s.Land.Wells[2].Has = exactly(500)
		}, plan(5, 10, 3, 6), 2000},
		// After seven days eight slabs earn 25 each, or after one day ten 20.
		{func(s *api.Season) {
			s.Scenes[0] = dry(0, 30, 35, 0)
			s.Land.Legs[2].Gates, s.Land.Legs[4].Gates, s.Land.Legs[3].Long = nil, nil, exactly(7)
		}, plan(10, 8, 3), 2000},
		{func(s *api.Season) {
			s.Scenes[0] = dry(0, 35, 30, 0)
			s.Land.Legs[2].Gates, s.Land.Legs[1].Gates, s.Land.Legs[5].Gates, s.Land.Legs[0].Long = nil, nil, nil, exactly(7)
		}, plan(10, 8, 0), 2000},
	} {
		if wantBest(t, with(fan(), func(s *api.Season) {
			if x.change != nil {
				x.change(s)
			}
		}), x.want, x.worth); t.Failed() {
			t.Fatal(i)
		}
	}
}

// P9.3: way.Ways's error for any well as the goal, however far from the best plan.
func TestBestFull(t *testing.T) {
	s := crowd()
	wantFull := func(full bool) {
		t.Helper()
		p, worth, e := season.Best(s)
		if full != (e == api.ErrFull) || !full && e != api.OK || full && (len(p.Legs) > 0 || p.Animals != 0 || p.Slabs != 0 || worth != 0) {
			t.Error(p, worth, e)
		}
	}
	wantFull(true)
	// Nobody is at the last well before 18, and to the one before it there are 128 ways.
	for until := 10; until <= 18; until++ {
		s.Until = until
		wantFull(until == 18)
	}
	s.From = 1
	wantFull(false)
	// To the first well, though all would be sold.
	s.From, s.Sale = 8, 1000000
	wantFull(true)
	s.Until = 17
	wantFull(false)
	s.Until = 18
	s.Land.Legs[0].Gates = nil
	wantFull(false)
}

// P9.4.
func TestBound(t *testing.T) {
	for i, x := range []struct {
		change func(s *api.Season)
		want   int
	}{
		{nil, 3000},
		{func(s *api.Season) { s.Sale = 300 }, 3000},
		{func(s *api.Season) { s.Sale = 301 }, 3010},
		{func(s *api.Season) { s.Sale, s.Cost = 0, 40 }, 0},
		{func(s *api.Season) { s.Sale, s.Cost = 0, 1000 }, 0},
		{func(s *api.Season) { s.Sale, s.Cost = 0, 39 }, 100},
		{func(s *api.Season) { s.Herd = 7 }, 2100},
		// So many slabs as the least of Strong holds.
		{func(s *api.Season) { s.Slab = 101 }, 2700},
		{func(s *api.Season) { s.Slab = 84 }, 3300},
		{func(s *api.Season) { s.Slab = 83 }, 3600},
		{func(s *api.Season) { s.Slab = 1 }, 3600},
		{func(s *api.Season) { s.Slab = 1001 }, 600},
		{func(s *api.Season) { s.Breed.Strong = span(999, 1000000) }, 2700},
		{func(s *api.Season) { s.Breed.Strong = span(0, 1000000) }, 600},
		// Also of an animal that can carry nothing, and would die on its way.
		{func(s *api.Season) { s.Camel = api.Camel{} }, 3000},
		{func(s *api.Season) { s.Breed.Rest = exactly(100000) }, 3000},
		// What one reaches for sure until the last day, where one begins too.
		{func(s *api.Season) { s.Until = 25 }, 3000},
		{func(s *api.Season) { s.Until = 24 }, 2000},
		{func(s *api.Season) { s.Until = 19 }, 1000},
		{func(s *api.Season) { s.Until, s.Sale = 14, 0 }, 0},
		{func(s *api.Season) { s.Until, s.Scenes[0].Prices[0] = 10, 50 }, 4000},
		{func(s *api.Season) { s.Until, s.Scenes[0].Prices[0], s.Day = 100000, 50, 100000 }, 4000},
		{func(s *api.Season) { s.Land.Legs[2].Long = span(5, 86) }, 2000},
		{func(s *api.Season) { s.Land.Legs[2].Long = span(5, 80) }, 3000},
		{func(s *api.Season) { s.Land.Legs[2].Gates = nil }, 2000},
		{func(s *api.Season) { s.Land.Legs[2].Gates, s.Until = nil, 100000 }, 2000},
		{func(s *api.Season) { s.Land.Legs[0].Gates[0].Opens = span(0, 11) }, 3000},
		{func(s *api.Season) { s.Land.Legs[0].Gates[0].Shuts = span(0, 11) }, 600},
		{func(s *api.Season) { s.From = 3 }, 3000},
		{func(s *api.Season) { s.From, s.Until = 2, 14 }, 2000},
		// The least of all scenes, of each of them the best well.
		{func(s *api.Season) { s.Scenes = append(s.Scenes, dry(0, 33, 0, 0)) }, 2300},
		{func(s *api.Season) { s.Scenes = append(s.Scenes, dry(0, 43, 0, 0)) }, 3000},
		{func(s *api.Season) {
			s.Scenes = append(s.Scenes, dry(0, 43, 0, 0), dry(0, 0, 0, 0), dry(99, 99, 99, 99))
		}, 600},
		{func(s *api.Season) { s.Herd, s.Cost, s.Slab, s.Scenes[0].Prices[1] = 30, 0, 1, 1000000 }, 360000000},
	} {
		if wantBound(t, changed(x.change), x.want); t.Failed() {
			t.Fatal(i)
		}
	}
	// Also where there are more ways than Best can look at.
	s := crowd()
	s.Scenes[0].Prices[8] = 20
	wantBound(t, s, 1000)
}
