package season_test

import (
	"math"
	"math/rand/v2"
	"slices"
	"testing"
	"time"

	"azalai/api"
	"azalai/season"
	"azalai/way"
)

// The signatures of the chapter.
var (
	_ func(s api.Season) api.Errno                                           = season.Check
	_ func(s api.Season, p api.Plan) (why uint8, scene, at int, e api.Errno) = season.Holds
	_ func(s api.Season, p api.Plan) (int, api.Errno)                        = season.Worth
	_ func(s api.Season, p api.Plan, scene int) ([]api.Draw, api.Errno)      = season.Takes
	_ func(s api.Season) (p api.Plan, worth int, e api.Errno)                = season.Best
	_ func(s api.Season) (int, api.Errno)                                    = season.Bound
)

// outcome is the error of a call, and whether all other results are zero.
type outcome struct {
	e    api.Errno
	zero bool
}

var (
	ofPlans = []string{"Holds", "Worth", "Takes"}
	all     = []string{"Check", "Holds", "Worth", "Takes", "Best", "Bound"}
)

// outcomes calls all functions.
func (c call) outcomes() map[string]outcome {
	why, scene, at, held := season.Holds(c.s, c.p)
	worth, worthy := season.Worth(c.s, c.p)
	draws, taken := season.Takes(c.s, c.p, c.scene)
	best, most, found := season.Best(c.s)
	bound, bounded := season.Bound(c.s)
	return map[string]outcome{
		"Check": {season.Check(c.s), true},
		"Holds": {held, why == 0 && scene == 0 && at == 0},
		"Worth": {worthy, worth == 0},
		"Takes": {taken, len(draws) == 0},
		"Best":  {found, len(best.Legs) == 0 && best.Animals == 0 && best.Slabs == 0 && most == 0},
		"Bound": {bounded, bound == 0},
	}
}

func with[T any](v T, change func(*T)) T {
	change(&v)
	return v
}

// crowd is a road from which there are 2 to the power of 8 ways to the well 8.
func crowd() api.Season {
	return changed(func(s *api.Season) {
		s.Land = api.Land{Wells: make([]api.Well, 9)}
		for i := range 8 {
			s.Land.Legs = append(s.Land.Legs, path(i, i+1, exactly(1)), path(i, i+1, exactly(1)))
		}
		s.Scenes = []api.Scene{dry(make([]int, 9)...)}
	})
}

// R1, R2: of several errors the first one, with zero values.
func TestOrderOfErrors(t *testing.T) {
	bad, plans, hold, full := api.ErrSeason, api.ErrPlan, api.ErrHold, api.ErrFull
	c := call{s: crowd(), p: plan(11, 13, 1, 0), scene: 1}
	c.s.Land.Wells, c.s.Pace, c.s.Herd = nil, api.Span{}, 0
	// One after the other is put right.
	for i, x := range []struct {
		change func()
		want   []api.Errno // of all, in their order
	}{
		{func() {}, []api.Errno{bad, bad, bad, bad, bad, bad}},
		{func() { c.s.Land = crowd().Land }, []api.Errno{bad, bad, bad, bad, bad, bad}},
		{func() { c.s.Pace = exactly(1) }, []api.Errno{bad, bad, bad, bad, bad, bad}},
		{func() { c.s.Herd = 10 }, []api.Errno{0, plans, plans, plans, full, 0}},
		{func() { c.p.Animals = 10 }, []api.Errno{0, plans, plans, plans, full, 0}},
		{func() { c.p.Slabs = 12 }, []api.Errno{0, plans, plans, plans, full, 0}},
		{func() { c.p.Legs = list(0, 2) }, []api.Errno{0, 0, hold, hold, full, 0}},
		{func() { c.p.Slabs = 10 }, []api.Errno{0, 0, hold, hold, full, 0}},
		{func() { c.p.Animals = 0 }, []api.Errno{0, 0, 0, hold, full, 0}},
		{func() { c.scene = 0 }, []api.Errno{0, 0, 0, 0, full, 0}},
		{func() { c.s.Until = 17 }, []api.Errno{0, 0, 0, 0, 0, 0}},
		{func() { c.s.Until = 9 }, []api.Errno{bad, bad, bad, bad, bad, bad}},
	} {
		x.change()
		got := c.outcomes()
		for k, name := range all {
			if got[name].e != x.want[k] || x.want[k] != api.OK && !got[name].zero {
				t.Error(i, name, got[name], "want", x.want[k])
			}
		}
	}
}

// edge returns a number that may be at an edge of a range, or far beyond it.
func edge(r *rand.Rand, least, most int) int {
	switch {
	case r.IntN(3000) == 0:
		return []int{math.MinInt, -1 << 32, least - 1, most + 1, 1 << 32, 1 << 62, math.MaxInt}[r.IntN(7)]
	case r.IntN(10) == 0:
		return []int{least, most}[r.IntN(2)]
	}
	return least + r.IntN(max(1, most-least+1))
}

func edges(r *rand.Rand, least, most int) api.Span {
	a, b := edge(r, least, most), edge(r, least, most)
	if r.IntN(2000) > 0 {
		a, b = min(a, b), max(a, b)
	}
	return span(a, b)
}

// low returns a span that is mostly near to the least of its range.
func low(r *rand.Rand, most int) api.Span {
	for r.IntN(4) > 0 {
		most = most / 8
	}
	return edges(r, 0, most)
}

// anyCall is a call that is mostly valid, with numbers from all of their ranges.
func anyCall(r *rand.Rand) call {
	s := api.Season{
		Pace: edges(r, 1, 100000),
		Breed: api.Breed{
			Full: edge(r, 1, 1000000), Fed: edge(r, 1, 1000000), Rest: low(r, 100000), Heat: low(r, 100000), Toil: low(r, 100000),
			Burn: low(r, 100000), Rub: low(r, 100000), Milk: low(r, 100000), Heal: edge(r, 0, 1000), Strong: edges(r, 0, 1000000),
		},
		Herd: edge(r, 1, 30), Hours: edge(r, 1, 24), Slab: edge(r, 1, 1000000>>r.IntN(8)), Cost: edge(r, 0, 1000000), Sale: edge(r, 0, 1000000),
		Day: edge(r, 0, 100000), Until: 100000,
	}
	s.Camel = api.Camel{Water: edges(r, max(0, s.Breed.Full)/2, s.Breed.Full), Fat: edges(r, max(0, s.Breed.Fed)/2, s.Breed.Fed), Sore: low(r, 1000), Milks: r.IntN(3) == 0}
	if r.IntN(4) == 0 {
		s.Until = edge(r, s.Day, 100000)
	}
	wells := 1 + r.IntN(4)
	for range wells {
		room := edge(r, 0, 1000000000)
		s.Land.Wells = append(s.Land.Wells, api.Well{Yield: edges(r, 0, 10000000), Room: room, Has: edges(r, 0, max(0, min(room, 1000000000)))})
	}
	s.From = edge(r, 0, wells-1)
	for range r.IntN(8) {
		if wells > 1 {
			from := r.IntN(wells)
			leg := path(from, (from+1+r.IntN(wells-1))%wells, edges(r, 1, 1000000))
			leg.Gates[0] = api.Gate{Opens: edges(r, 0, 20000), Shuts: edges(r, 80000, 100000)}
			s.Land.Legs = append(s.Land.Legs, leg)
		}
	}
	for range 1 + r.IntN(4) {
		scene := api.Scene{Heat: edges(r, 0, 60), Grass: low(r, 1000000)}
		for range wells {
			scene.Yields, scene.Prices = append(scene.Yields, low(r, 10000000)), append(scene.Prices, edge(r, 0, 1000000))
		}
		s.Scenes = append(s.Scenes, scene)
	}
	c := call{s: s, p: plan(edge(r, 0, max(0, min(s.Herd, 30))), edge(r, 0, 12)), scene: edge(r, 0, len(s.Scenes)-1)}
	if 0 <= s.From && s.From < wells {
		c.p.Legs = someWay(r, s)
	}
	if r.IntN(20) == 0 {
		c.p.Legs = append(c.p.Legs, edge(r, 0, 9))
	}
	return c
}

// R5, R6, R7: any values lead to an end without a panic, and to zero values beside an error.
func TestAnyValue(t *testing.T) {
	r := rand.New(rand.NewPCG(9, 17))
	seen := map[api.Errno]int{}
	for range 10000 {
		c := anyCall(r)
		for name, got := range c.outcomes() {
			if got.e != api.OK && !got.zero {
				t.Fatalf("%s %+v: %v", name, c, got)
			}
			seen[got.e]++
		}
	}
	for _, e := range []api.Errno{api.OK, api.ErrSeason, api.ErrPlan, api.ErrHold} {
		if seen[e] < 500 {
			t.Error(e, seen)
		}
	}
}

// R6: wells at one place, legs that are there twice, scenes that are the same, and an animal without anything.
func TestOddValues(t *testing.T) {
	s := square()
	s.Breed.Rest, s.Camel = api.Span{}, api.Camel{Sore: exactly(1000)}
	s.Scenes = slices.Repeat(s.Scenes, 4)
	call{s: s, p: plan(10, 0, 4, 1, 2)}.wantHeld(t, fault{})
	call{s: s, p: plan(10, 1, 4, 1, 2)}.wantHeld(t, fault{why: api.HoldsWeak})
	call{s: s, p: plan(10, 0, 4, 1, 2)}.wantWorth(t, 0)
	call{s: s, p: plan(10, 0, 4, 1, 2), scene: 3}.wantTaken(t, draw(1, 15, 10000), draw(2, 20, 0))
	wantBest(t, s, plan(0, 0), 600)
	wantBound(t, s, 3000)
}

// R4: a nil list is an empty one.
func TestNil(t *testing.T) {
	for _, legs := range [][]int{nil, {}} {
		for _, land := range [][]api.Leg{nil, {}} {
			s := changed(func(s *api.Season) { s.Land.Legs = land })
			c := call{s: s, p: plan(10, 10, legs...)}
			c.wantHeld(t, fault{})
			c.wantWorth(t, 0)
			c.wantTaken(t)
			wantBest(t, s, plan(0, 0), 600)
			wantBound(t, s, 600)
		}
	}
	for _, scenes := range [][]api.Scene{nil, {}, {{Yields: []api.Span{}, Prices: []int{}}}, {{}}} {
		wantValid(t, false, changed(func(s *api.Season) { s.Scenes = scenes }))
	}
}

// spare returns a list whose memory goes on behind its end.
func spare[T any](l []T, behind T) []T {
	return append(slices.Clone(l), slices.Repeat([]T{behind}, 20)...)[:len(l)]
}

// whole returns a copy of a list and of the memory behind its end that spare made.
func whole[T any](l []T) []T { return slices.Clone(l[:len(l)+20]) }

// spareCall is a call whose lists all have memory behind their ends.
func spareCall() call {
	s := square()
	s.Scenes = append(s.Scenes, dry(1, 2, 3, 50))
	s.Scenes[1].Yields[1] = span(3, 4)
	for i, scene := range s.Scenes {
		s.Scenes[i].Yields, s.Scenes[i].Prices = spare(scene.Yields, exactly(77)), spare(scene.Prices, 77)
	}
	s.Scenes = spare(s.Scenes, api.Scene{Heat: exactly(77)})
	for i, leg := range s.Land.Legs {
		s.Land.Legs[i].Gates = spare(leg.Gates, api.Gate{Opens: exactly(77)})
	}
	s.Land.Legs = spare(s.Land.Legs, api.Leg{From: 77})
	s.Land.Wells[1].Yield = span(7, 8)
	s.Land.Wells = spare(s.Land.Wells, api.Well{X: 77})
	return call{s, api.Plan{Legs: spare(list(4, 1, 2), 77), Animals: 3, Slabs: 10}, 1}
}

// same tells whether the lists of two calls are the same, with the memory behind their ends.
func same(a, b call) bool {
	sameLegs := func(a, b api.Leg) bool {
		return a.From == b.From && a.To == b.To && a.Long == b.Long && slices.Equal(a.Gates, b.Gates)
	}
	sameScenes := func(a, b api.Scene) bool {
		return a.Heat == b.Heat && a.Grass == b.Grass && slices.Equal(a.Yields, b.Yields) && slices.Equal(a.Prices, b.Prices)
	}
	for i := range a.s.Land.Legs {
		if !slices.Equal(whole(a.s.Land.Legs[i].Gates), whole(b.s.Land.Legs[i].Gates)) {
			return false
		}
	}
	for i := range a.s.Scenes {
		if !slices.Equal(whole(a.s.Scenes[i].Yields), whole(b.s.Scenes[i].Yields)) || !slices.Equal(whole(a.s.Scenes[i].Prices), whole(b.s.Scenes[i].Prices)) {
			return false
		}
	}
	return slices.Equal(whole(a.s.Land.Wells), whole(b.s.Land.Wells)) && slices.EqualFunc(whole(a.s.Land.Legs), whole(b.s.Land.Legs), sameLegs) &&
		slices.EqualFunc(whole(a.s.Scenes), whole(b.s.Scenes), sameScenes) && slices.Equal(whole(a.p.Legs), whole(b.p.Legs))
}

// R3: no argument is written to, nor what lies behind its end.
func TestArguments(t *testing.T) {
	c := spareCall()
	for name, got := range c.outcomes() {
		if got.e != api.OK {
			t.Error(name, got)
		}
	}
	if !same(c, spareCall()) {
		t.Errorf("an argument is written to: %+v", c)
	}
	// Nor beside an error, or by a plan that does not hold.
	for _, p := range []api.Plan{plan(11, 0), plan(10, 12)} {
		c.p.Animals, c.p.Slabs = p.Animals, p.Slabs
		if got := c.outcomes()["Worth"]; got.e == api.OK || !got.zero {
			t.Error(p, got)
		}
	}
	if !same(c, spareCall()) {
		t.Errorf("an argument is written to: %+v", c)
	}
}

// spoil overwrites a list with all its memory.
func spoil[T any](l []T, with T) {
	l = l[:cap(l)]
	for i := range l {
		l[i] = with
	}
}

// R3: results share no memory with arguments, and no call remembers another one.
func TestResults(t *testing.T) {
	c := spareCall()
	for range 3 {
		c.wantHeld(t, fault{})
		c.wantWorth(t, 900+420)
		c.wantTaken(t, draw(1, 15, 1500), draw(2, 20, 1500))
		draws, _ := season.Takes(c.s, c.p, c.scene)
		spoil(draws, draw(77, 77, 77))
		wantBest(t, c.s, plan(10, 10, 3), 3000)
		best, _, _ := season.Best(c.s)
		spoil(best.Legs, 77)
		wantBound(t, c.s, 3000)
		// What was so in the call before is not so in another one.
		other := call{s: road(), p: plan(0, 0)}
		other.wantHeld(t, fault{})
		other.wantWorth(t, 600)
		other.wantTaken(t)
		wantBest(t, other.s, plan(10, 10, 0, 1, 2), 3000)
	}
	if !same(c, spareCall()) {
		t.Errorf("an argument is written to: %+v", c)
	}
}

// longest is a season with 192 ways of 11 legs, each of which may take a thousand days, on which an animal gets thirsty slowly.
func longest() api.Season {
	return changed(func(s *api.Season) {
		s.Land, s.Scenes[0] = api.Land{}, api.Scene{}
		for i := range 12 {
			s.Land.Wells = append(s.Land.Wells, api.Well{Room: 1000000000, Has: exactly(1000000000)})
			s.Scenes[0].Prices = append(s.Scenes[0].Prices, 10+100*i)
		}
		s.Scenes[0].Yields = make([]api.Span, 12)
		s.Scenes = slices.Repeat(s.Scenes, 4)
		for i, paths := range list(3, 2, 2, 2, 2, 2, 2, 1, 1, 1, 1) {
			s.Land.Legs = append(s.Land.Legs, slices.Repeat([]api.Leg{path(i, i+1, span(1, 1000))}, paths)...)
		}
		s.Breed = api.Breed{Full: 1000000, Fed: 1, Rest: exactly(995), Strong: exactly(1000000)}
		s.Camel = api.Camel{Water: exactly(1000000), Fat: exactly(1)}
		s.Herd, s.Slab, s.Day, s.Until = 30, 1, 0, 100000
	})
}

// R7: each call ends, also with as many ways, days and scenes as there can be.
func TestEnds(t *testing.T) {
	s := longest()
	first := list(0, 3, 5, 7, 9, 11, 13, 15, 16, 17, 18)
	if ways, e := way.Ways(s.Land, 0, 11, 0, 100000, s.Pace); len(ways) != 192 || e != api.OK || !slices.Equal(ways[0], first) {
		t.Fatal(len(ways), e)
	}
	start := time.Now()
	wantBest(t, s, plan(30, 12, first...), 30*12*1100)
	// On the last leg each animal may die, by whatever way it came.
	s.Land.Legs[18].Long = span(1, 1010)
	wantBest(t, s, plan(30, 12, first[:10]...), 30*12*1000)
	// Where nothing is lost on many days, and no way is better than the first one.
	s.Breed.Rest, s.Land.Legs = api.Span{}, slices.Repeat([]api.Leg{path(0, 1, exactly(100000))}, 24)
	wantBest(t, s, plan(30, 12, 0), 30*12*100)
	if took := time.Since(start); took > 60*time.Second {
		t.Error(took)
	}
}
