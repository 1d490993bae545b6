package season_test

import (
	"math"
	"slices"
	"testing"

	"azalai/api"
	"azalai/season"
)

func span(lo, hi int) api.Span { return api.Span{Lo: lo, Hi: hi} }

func exactly(n int) api.Span { return span(n, n) }

// list are numbers.
func list(l ...int) []int { return l }

// path is a leg that is always open.
func path(from, to int, long api.Span) api.Leg {
	return api.Leg{From: from, To: to, Long: long, Gates: []api.Gate{{Opens: exactly(0), Shuts: exactly(100000)}}}
}

func plan(animals, slabs int, legs ...int) api.Plan {
	return api.Plan{Legs: legs, Animals: animals, Slabs: slabs}
}

func draw(well, day, water int) api.Draw { return api.Draw{Well: well, Day: day, Water: water} }

// fault is what Holds returns.
type fault struct {
	why       uint8
	scene, at int
}

// around are numbers at the edges of a range, and far beyond them, with whether they are in it.
func around(least, most int) map[int]bool {
	return map[int]bool{
		least - 1: false, most + 1: false, least + 1<<40: false, least - 1<<40: false, 1 << 62: false, math.MinInt: false, math.MaxInt: false,
		least: true, most: true,
	}
}

// call is all that the functions are called with.
type call struct {
	s     api.Season
	p     api.Plan
	scene int
}

// The season of the chapter's examples.
func chapter() api.Season {
	leg := func(from, to, long int) api.Leg {
		return api.Leg{From: from, To: to, Long: exactly(long), Gates: []api.Gate{{Opens: exactly(0), Shuts: exactly(99)}}}
	}
	return api.Season{
		Land: api.Land{
			Wells: []api.Well{{}, {Room: 1000000}, {}},
			Legs:  []api.Leg{leg(0, 1, 40000), leg(1, 2, 40000), leg(0, 2, 100000)},
		},
		Pace:  exactly(20000),
		Breed: api.Breed{Full: 100000, Fed: 50000, Rest: exactly(5000), Toil: exactly(1000), Burn: exactly(100), Strong: exactly(200000)},
		Camel: api.Camel{Water: exactly(100000), Fat: exactly(50000)},
		Herd:  10, Hours: 10, Slab: 50000, Cost: 10, Sale: 60, Until: 20,
		Scenes: []api.Scene{{Yields: []api.Span{{}, exactly(50000), {}}, Prices: list(10, 12, 40)}},
	}
}

// road has the wells 0 to 3 in a row, and the legs 0 to 2 between them, of 5 days each. An animal loses a tenth of its water a day, and carries 10 slabs for five days; each well has enough for all of the herd, which has 10.
func road() api.Season {
	well := api.Well{Room: 1000000, Has: exactly(10000)}
	return api.Season{
		Land: api.Land{
			Wells: []api.Well{well, well, well, well},
			Legs:  []api.Leg{path(0, 1, exactly(5)), path(1, 2, exactly(5)), path(2, 3, exactly(5))},
		},
		Pace:  exactly(1),
		Breed: api.Breed{Full: 1000, Fed: 1000, Rest: exactly(100), Strong: exactly(1000)},
		Camel: api.Camel{Water: exactly(1000), Fat: exactly(1000)},
		Herd:  10, Hours: 10, Slab: 100, Cost: 10, Sale: 60, Day: 10, Until: 100,
		Scenes: []api.Scene{dry(10, 20, 30, 40)},
	}
}

// dry is a scene without heat, grass or yields.
func dry(prices ...int) api.Scene {
	return api.Scene{Yields: make([]api.Span, len(prices)), Prices: prices}
}

// changed returns a road that is changed.
func changed(change func(s *api.Season)) api.Season {
	s := road()
	if change != nil {
		change(&s)
	}
	return s
}

func (c call) wantHeld(t *testing.T, want fault) {
	t.Helper()
	if why, scene, at, e := season.Holds(c.s, c.p); (fault{why, scene, at}) != want || e != api.OK {
		t.Errorf("Holds %+v %+v: %v %v %v %v, want %v", c.s, c.p, why, scene, at, e, want)
	}
	// What does not hold has no worth, and takes nothing.
	if want.why == api.HoldsYes {
		return
	}
	worth, e := season.Worth(c.s, c.p)
	draws, f := season.Takes(c.s, c.p, c.scene)
	if worth != 0 || e != api.ErrHold || len(draws) != 0 || f != api.ErrHold {
		t.Errorf("%+v %+v: %v %v %v %v", c.s, c.p, worth, e, draws, f)
	}
}

func (c call) wantWorth(t *testing.T, want int) {
	t.Helper()
	if worth, e := season.Worth(c.s, c.p); worth != want || e != api.OK {
		t.Errorf("Worth %+v %+v: %v %v, want %v", c.s, c.p, worth, e, want)
	}
}

func (c call) wantTaken(t *testing.T, want ...api.Draw) {
	t.Helper()
	if draws, e := season.Takes(c.s, c.p, c.scene); !slices.Equal(draws, want) || e != api.OK {
		t.Errorf("Takes %+v %+v %v: %v %v, want %v", c.s, c.p, c.scene, draws, e, want)
	}
}

func wantBest(t *testing.T, s api.Season, want api.Plan, worth int) {
	t.Helper()
	p, w, e := season.Best(s)
	if !slices.Equal(p.Legs, want.Legs) || p.Animals != want.Animals || p.Slabs != want.Slabs || w != worth || e != api.OK {
		t.Errorf("Best %+v: %v %v %v, want %v %v", s, p, w, e, want, worth)
	}
}

func wantBound(t *testing.T, s api.Season, want int) {
	t.Helper()
	if bound, e := season.Bound(s); bound != want || e != api.OK {
		t.Errorf("Bound %+v: %v %v, want %v", s, bound, e, want)
	}
}

// The chapter's examples.
func TestExamples(t *testing.T) {
	s := chapter()
	for _, x := range []struct {
		p    api.Plan
		want fault
	}{
		{plan(2, 2, 0, 1), fault{}},
		{plan(3, 2, 0, 1), fault{api.HoldsDry, 0, 0}},
		{plan(10, 5, 0, 1), fault{api.HoldsWeak, 0, 0}},
		{plan(10, 2, 2), fault{api.HoldsWeak, 0, 0}},
		{plan(10, 1, 2), fault{}},
	} {
		call{s: s, p: x.p}.wantHeld(t, x.want)
	}
	call{s: s, p: plan(2, 2, 0, 1)}.wantWorth(t, 600)
	wantBest(t, s, plan(1, 4, 0, 1), 660)
	wantBound(t, s, 1200)
}

// wantValid checks that a season is valid, or that all functions return ErrSeason and zero values, also with a plan that is not valid.
func wantValid(t *testing.T, valid bool, s api.Season) {
	t.Helper()
	if e := season.Check(s); (e == api.OK) != valid || !valid && e != api.ErrSeason {
		t.Errorf("Check %+v: %v", s, e)
	}
	if valid {
		return
	}
	for _, p := range []api.Plan{{}, plan(-1, -1, -1)} {
		for name, got := range (call{s, p, -1}).outcomes() {
			if got.e != api.ErrSeason || !got.zero {
				t.Errorf("%s %+v: %v", name, s, got)
			}
		}
	}
}

// P9.1: the ranges of all numbers.
func TestCheckNumbers(t *testing.T) {
	for i, x := range []struct {
		least, most int
		set         func(s *api.Season, n int)
	}{
		{1, 30, func(s *api.Season, n int) { s.Herd = n }},
		{1, 24, func(s *api.Season, n int) { s.Hours = n }},
		{1, 1000000, func(s *api.Season, n int) { s.Slab = n }},
		{0, 1000000, func(s *api.Season, n int) { s.Cost = n }},
		{0, 1000000, func(s *api.Season, n int) { s.Sale = n }},
		{0, 3, func(s *api.Season, n int) { s.From = n }},
		{0, 100, func(s *api.Season, n int) { s.Day = n }},
		{10, 100000, func(s *api.Season, n int) { s.Until = n }},
		{1, 1000000, func(s *api.Season, n int) { s.Breed.Full, s.Camel.Water = n, api.Span{} }},
		{0, 1000000, func(s *api.Season, n int) { s.Scenes[0].Prices[0] = n }},
		{0, 1000000, func(s *api.Season, n int) { s.Scenes[0].Prices[3] = n }},
	} {
		for n, ok := range around(x.least, x.most) {
			s := road()
			x.set(&s, n)
			if wantValid(t, ok, s); t.Failed() {
				t.Fatal(i, n)
			}
		}
	}
	// Until may be the day on which it begins, also at the end of all days.
	for day := range around(0, 100000) {
		wantValid(t, day == 0 || day == 100000, changed(func(s *api.Season) { s.Day, s.Until = day, day }))
	}
}

// P9.1: the ranges of all spans.
func TestCheckSpans(t *testing.T) {
	for i, x := range []struct {
		least, most int
		set         func(s *api.Season, of api.Span)
	}{
		{1, 100000, func(s *api.Season, of api.Span) { s.Pace = of }},
		{0, 60, func(s *api.Season, of api.Span) { s.Scenes[0].Heat = of }},
		{0, 1000000, func(s *api.Season, of api.Span) { s.Scenes[0].Grass = of }},
		{0, 10000000, func(s *api.Season, of api.Span) { s.Scenes[0].Yields[0] = of }},
		{0, 10000000, func(s *api.Season, of api.Span) { s.Scenes[0].Yields[3] = of }},
		{1, 1000000, func(s *api.Season, of api.Span) { s.Land.Legs[2].Long = of }},
		{0, 100000, func(s *api.Season, of api.Span) { s.Breed.Rest = of }},
		{0, 1000, func(s *api.Season, of api.Span) { s.Camel.Fat = of }},
	} {
		wantSet := func(of api.Span, ok bool) {
			t.Helper()
			s := road()
			x.set(&s, of)
			if wantValid(t, ok, s); t.Failed() {
				t.Fatal(i, of)
			}
		}
		for n, ok := range around(x.least, x.most) {
			wantSet(exactly(n), ok)
			wantSet(span(x.least, n), ok)
			wantSet(span(n, x.most), ok)
		}
		wantSet(span(x.least+1, x.least), false)
		wantSet(span(x.most, x.most-1), false)
	}
}

// P9.1: how many scenes, and what each of them has for each well.
func TestCheckScenes(t *testing.T) {
	for n := range 7 {
		wantValid(t, 1 <= n && n <= 4, changed(func(s *api.Season) { s.Scenes = slices.Repeat(s.Scenes, n) }))
		wantValid(t, n == 4, changed(func(s *api.Season) { s.Scenes[0].Yields = make([]api.Span, n) }))
		wantValid(t, n == 4, changed(func(s *api.Season) { s.Scenes[0].Prices = make([]int, n) }))
	}
	for i, spoil := range []func(s *api.Scene){
		func(s *api.Scene) { s.Heat = span(2, 1) },
		func(s *api.Scene) { s.Grass = span(0, 1000001) },
		func(s *api.Scene) { s.Yields = nil },
		func(s *api.Scene) { s.Yields = append(s.Yields, api.Span{}) },
		func(s *api.Scene) { s.Yields[2] = span(2, 1) },
		func(s *api.Scene) { s.Prices = append(s.Prices, 0) },
		func(s *api.Scene) { s.Prices[1] = -1 },
	} {
		for bad := range 4 {
			s := road()
			for range 3 {
				s.Scenes = append(s.Scenes, dry(1, 2, 3, 4))
			}
			if wantValid(t, true, s); t.Failed() {
				t.Fatal(i, bad)
			}
			spoil(&s.Scenes[bad])
			wantValid(t, false, s)
		}
	}
}

// P9.1: the land, the breed and the animal are those of their layers.
func TestCheckLayers(t *testing.T) {
	for i, spoil := range []func(s *api.Season){
		func(s *api.Season) { s.Land = api.Land{} },
		func(s *api.Season) { s.Land.Wells[3].Has = span(0, 1000001) },
		func(s *api.Season) { s.Land.Legs[0].To = 4 },
		func(s *api.Season) { s.Land.Legs = slices.Repeat(s.Land.Legs, 9) },
		func(s *api.Season) { s.Land.Legs[1].Gates[0].Shuts = exactly(-1) },
		func(s *api.Season) { s.Breed.Fed = 0 },
		func(s *api.Season) { s.Breed.Heal = 1001 },
		func(s *api.Season) { s.Breed.Strong = span(0, 1000001) },
		func(s *api.Season) { s.Camel.Water.Hi = 1001 },
		func(s *api.Season) { s.Camel.Sore = span(1, 0) },
	} {
		if wantValid(t, false, changed(spoil)); t.Failed() {
			t.Fatal(i)
		}
	}
	// An animal is valid for the breed of its season.
	wantValid(t, true, changed(func(s *api.Season) { s.Breed.Full, s.Camel.Water = 1001, span(0, 1001) }))
	// What is without legs, gates, strength or prices is valid.
	wantValid(t, true, changed(func(s *api.Season) { s.Land.Legs = nil }))
	wantValid(t, true, changed(func(s *api.Season) { s.Land.Legs[0].Gates = nil }))
	wantValid(t, true, changed(func(s *api.Season) { s.Breed.Strong, s.Camel = api.Span{}, api.Camel{} }))
	wantValid(t, true, api.Season{
		Land: api.Land{Wells: make([]api.Well, 1)}, Pace: exactly(1), Breed: api.Breed{Full: 1, Fed: 1},
		Herd: 1, Hours: 1, Slab: 1, Scenes: []api.Scene{dry(0)},
	})
}

// square is a road with a leg 3 more from the well 3 to the well 0, and a leg 4 beside the leg 0.
func square() api.Season {
	return changed(func(s *api.Season) {
		s.Land.Legs = append(s.Land.Legs, path(3, 0, exactly(5)), path(1, 0, exactly(5)))
	})
}

// P9.1, P9.2: which plans are valid; a plan without animals holds as far as its way is sure.
func TestPlans(t *testing.T) {
	want := func(valid bool, s api.Season, p api.Plan) {
		t.Helper()
		got := call{s: s, p: p}.outcomes()
		for _, name := range ofPlans {
			if x := got[name]; valid && x.e != api.OK || !valid && (x.e != api.ErrPlan || !x.zero) {
				t.Errorf("%s %v: %v", name, p, x)
			}
		}
	}
	for n, ok := range around(0, 10) {
		want(ok, square(), plan(n, 0))
	}
	for n, ok := range around(0, 12) {
		want(ok, square(), plan(0, n, 0))
	}
	for n, ok := range around(0, 4) {
		// Of these the legs 0 and 4 begin at the well 0.
		want(ok, square(), plan(0, 0, n))
		want(false, square(), plan(0, 0, 0, 1, 2, n))
	}
	for _, x := range []struct {
		from  int
		valid bool
		legs  []int
	}{
		{0, true, nil},
		{0, true, list(0, 1, 2)},
		{0, true, list(4, 1, 2)},
		{0, true, list(3, 2, 1)},
		{0, true, list(3)},
		{1, true, list(0, 3, 2)},
		{1, true, list(4, 3)},
		{2, true, list(1)},
		{3, true, list(3, 0, 1)},
		{0, false, list(1)},
		{0, false, list(2)},
		{0, false, list(0, 2)},
		{0, false, list(0, 3)},
		{2, false, list(0)},
		// A well that is visited twice, or where it began.
		{0, false, list(0, 0)},
		{0, false, list(0, 4)},
		{0, false, list(3, 3)},
		{0, false, list(0, 1, 1)},
		{0, false, list(0, 1, 2, 3)},
		{1, false, list(1, 2, 3, 4)},
		{0, false, list(0, 1, 2, 2)},
		{0, false, slices.Repeat(list(0), 100000)},
	} {
		s := square()
		s.From = x.from
		for _, p := range []api.Plan{plan(0, 0, x.legs...), plan(0, 12, x.legs...)} {
			want(x.valid, s, p)
		}
	}
}
