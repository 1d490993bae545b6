package way_test

import (
	"math"
	"math/rand/v2"
	"slices"
	"testing"

	"azalai/api"
	"azalai/way"
)

// The signatures of the chapter.
var (
	_ func(api.Land) api.Errno                                                          = way.Check
	_ func(api.Land, int, api.Span) (api.Span, api.Errno)                               = way.Days
	_ func(api.Land, int, int, api.Span) (api.Span, api.Errno)                          = way.Leave
	_ func(api.Land, int, int, api.Span) ([]api.Span, api.Errno)                        = way.Reach
	_ func(api.Land, int, int, api.Span, []int) (stops []api.Stop, at int, e api.Errno) = way.Walk
	_ func(api.Land, int, int, int, api.Span) ([]int, api.Errno)                        = way.Surest
	_ func(api.Land, int, int, int, int, api.Span) ([][]int, api.Errno)                 = way.Ways
	_ func(api.Land, int, []api.Draw, int) (has api.Span, at int, e api.Errno)          = way.Water
	_ func(api.Land, int, int, int) (hours int, e api.Errno)                            = way.Work
)

// call is all that the functions are called with: from is the well, too.
type call struct {
	l                         api.Land
	leg, from, to, day, until int
	pace                      api.Span
	legs                      []int
	draws                     []api.Draw
	water, teams              int
}

// outcome is the error of a call, and whether all its other results are zero values, but for the place that stands beside some errors.
type outcome struct {
	e    api.Errno
	zero bool
}

// paced are the functions with a pace.
var paced = []string{"Days", "Leave", "Reach", "Walk", "Surest", "Ways"}

// outcomes calls each function.
func outcomes(c call) map[string]outcome {
	days, e := way.Days(c.l, c.leg, c.pace)
	leave, f := way.Leave(c.l, c.leg, c.day, c.pace)
	reach, g := way.Reach(c.l, c.from, c.day, c.pace)
	stops, at, h := way.Walk(c.l, c.from, c.day, c.pace, c.legs)
	surest, i := way.Surest(c.l, c.from, c.to, c.day, c.pace)
	ways, j := way.Ways(c.l, c.from, c.to, c.day, c.until, c.pace)
	has, dry, k := way.Water(c.l, c.from, c.draws, c.day)
	hours, m := way.Work(c.l, c.from, c.water, c.teams)
	return map[string]outcome{
		"Check":  {way.Check(c.l), true},
		"Days":   {e, days == api.Span{}},
		"Leave":  {f, leave == api.Span{}},
		"Reach":  {g, len(reach) == 0},
		"Walk":   {h, len(stops) == 0 && (at == 0 || h == api.ErrBad || h == api.ErrShut)},
		"Surest": {i, len(surest) == 0},
		"Ways":   {j, len(ways) == 0},
		"Water":  {k, has == api.Span{} && (dry == 0 || k == api.ErrDry)},
		"Work":   {m, hours == 0},
	}
}

// R1, R2: of several errors the first one, with zero values.
func TestOrderOfErrors(t *testing.T) {
	bad := land()
	bad.Legs[2].Long.Lo = 0
	wrong := call{leg: -1, from: -1, to: -1, day: -1, until: -1, legs: make([]int, 25), draws: make([]api.Draw, 201), water: -1}
	of := func(l api.Land, pace api.Span, change func(c *call)) call {
		c := wrong
		c.l, c.pace = l, pace
		change(&c)
		return c
	}
	shut := land()
	shut.Legs[0].Gates[0].Shuts.Lo = 8
	for i, x := range []struct {
		c     call
		due   map[string]api.Errno
		other api.Errno
	}{
		{of(bad, span(2, 1), func(c *call) {}), nil, api.ErrLand},
		{of(bad, pace(), func(c *call) {}), nil, api.ErrLand},
		{of(land(), span(2, 1), func(c *call) {}), map[string]api.Errno{"Check": api.OK, "Water": api.ErrArg, "Work": api.ErrArg}, api.ErrPace},
		{of(land(), pace(), func(c *call) {}), map[string]api.Errno{"Check": api.OK}, api.ErrArg},
		{
			of(land(), pace(), func(c *call) { c.leg, c.from, c.to = 0, 0, 0 }),
			map[string]api.Errno{"Check": api.OK, "Days": api.OK}, api.ErrArg,
		},
		{
			of(land(), pace(), func(c *call) { c.from, c.to, c.day = 0, 0, 0 }),
			map[string]api.Errno{"Check": api.OK, "Reach": api.OK, "Walk": api.ErrMany, "Surest": api.OK, "Water": api.ErrMany}, api.ErrArg,
		},
		{
			of(shut, pace(), func(c *call) {
				*c = call{l: c.l, pace: c.pace, to: 1, legs: []int{0, 2}, until: 100000, draws: []api.Draw{draw(0, 0, 1), draw(0, 0, -1)}, day: 1}
			}),
			map[string]api.Errno{"Walk": api.ErrBad, "Surest": api.OK, "Water": api.ErrDraw, "Work": api.ErrArg}, api.OK,
		},
		{
			of(shut, pace(), func(c *call) {
				*c = call{l: c.l, pace: c.pace, to: 1, legs: []int{0}, until: 100000, draws: []api.Draw{draw(0, 0, 1)}, day: 1, teams: 1}
				c.l.Legs = c.l.Legs[:1]
			}),
			map[string]api.Errno{"Walk": api.ErrShut, "Surest": api.ErrNone, "Water": api.ErrDry}, api.OK,
		},
	} {
		for name, got := range outcomes(x.c) {
			want, named := x.due[name]
			if !named {
				want = x.other
			}
			if got.e != want || want != api.OK && !got.zero {
				t.Error(i, name, got, "want", want)
			}
		}
	}
}

// edge returns a number that may be at an edge of a range, or far beyond it.
func edge(r *rand.Rand, least, most int) int {
	if r.IntN(120) > 0 {
		return least + r.IntN(most-least+1)
	}
	return []int{math.MinInt, -1 << 32, least - 1, least, most, most + 1, 1 << 32, 1 << 62, math.MaxInt}[r.IntN(9)]
}

func edges(r *rand.Rand, least, most int) api.Span {
	a, b := edge(r, least, most), edge(r, least, most)
	if r.IntN(120) > 0 {
		a, b = min(a, b), max(a, b)
	}
	return span(a, b)
}

// anyCall returns a call that is mostly valid, with numbers from all of their ranges.
func anyCall(r *rand.Rand) call {
	wells := 1 + r.IntN(4)
	c := call{
		l:   paths(wells),
		leg: edge(r, 0, 3), from: edge(r, 0, wells-1), to: edge(r, 0, wells-1), day: edge(r, 0, 100000), until: edge(r, 0, 100000),
		pace:  edges(r, 1, 100000),
		water: edge(r, 0, 1000000000), teams: edge(r, 1, 100),
	}
	for i := range c.l.Wells {
		c.l.Wells[i] = api.Well{X: edge(r, -10000000, 10000000), Y: edge(r, -10000000, 10000000), Depth: edge(r, 0, 200), Yield: edges(r, 0, 10000000), Room: 1000000000, Has: edges(r, 0, 1000000000), Owner: edge(r, 0, 9999)}
	}
	for range r.IntN(6) {
		from := r.IntN(wells)
		next := leg(from, (from+1)%wells, edges(r, 1, 1000000))
		if r.IntN(3) > 0 {
			next.Gates = append(next.Gates, gate(edges(r, 0, 30000), edges(r, 30000, 60000)))
		}
		if r.IntN(3) > 0 {
			next.Gates = append(next.Gates, gate(edges(r, 60001, 70000), edges(r, 70000, 100000)))
		}
		if wells > 1 {
			c.l.Legs = append(c.l.Legs, next)
		}
	}
	for range r.IntN(3) {
		c.legs = append(c.legs, edge(r, 0, 3))
	}
	for range r.IntN(3) {
		c.draws = append(c.draws, draw(edge(r, 0, wells-1), edge(r, 0, 20), edge(r, 0, 1000000000)))
	}
	return c
}

// R5, R6, R7: any values lead to an end without a panic, and to zero values beside an error.
func TestAnyValue(t *testing.T) {
	r := rand.New(rand.NewPCG(3, 7))
	seen := map[api.Errno]int{}
	for range 40000 {
		c := anyCall(r)
		all := outcomes(c)
		for name, got := range all {
			if got.e != api.OK && !got.zero || (got.e == api.ErrLand) != (all["Check"].e == api.ErrLand) {
				t.Fatal(name, c, got)
			}
			seen[got.e]++
		}
	}
	for _, e := range []api.Errno{api.OK, api.ErrArg, api.ErrNone, api.ErrBad, api.ErrLand, api.ErrPace, api.ErrDraw, api.ErrDry, api.ErrShut} {
		if seen[e] < 1000 {
			t.Error(e, seen)
		}
	}
}

// spare returns a list whose memory goes on behind its end.
func spare[T any](l []T, behind T) []T {
	return append(slices.Clone(l), behind, behind)[:len(l)]
}

// whole returns a copy of a list and of the memory behind its end that spare made.
func whole[T any](l []T) []T { return slices.Clone(l[:len(l)+2]) }

func equalLegs(a, b api.Leg) bool {
	return a.From == b.From && a.To == b.To && a.Long == b.Long && slices.Equal(a.Gates, b.Gates)
}

// R3: no argument is written to, nor what lies behind its end.
func TestArguments(t *testing.T) {
	l := land()
	slices.Reverse(l.Legs)
	l.Wells, l.Legs = spare(l.Wells, api.Well{X: 77}), spare(l.Legs, api.Leg{From: 77})
	var gates [][]api.Gate
	for i := range l.Legs {
		l.Legs[i].Gates = spare(l.Legs[i].Gates, open(77, 77))
		gates = append(gates, whole(l.Legs[i].Gates))
	}
	legs, draws := spare([]int{2, 1, 0}, 77), spare([]api.Draw{draw(1, 0, 4000), draw(1, 1, 1), draw(0, 1, 1)}, draw(77, 77, 77))
	wells2, legs2, way2, draws2 := whole(l.Wells), whole(l.Legs), whole(legs), whole(draws)

	for name, got := range outcomes(call{l: l, leg: 1, from: 1, to: 2, day: 2, until: 99, pace: pace(), legs: legs[1:], draws: draws, teams: 1}) {
		if got.e != api.OK {
			t.Error(name, got)
		}
	}
	if _, _, e := way.Walk(l, 0, 6, pace(), legs); e != api.OK {
		t.Error(e)
	}
	way.Walk(l, 0, 6, pace(), legs[:1])

	if !slices.Equal(whole(l.Wells), wells2) || !slices.EqualFunc(whole(l.Legs), legs2, equalLegs) || !slices.Equal(whole(legs), way2) || !slices.Equal(whole(draws), draws2) {
		t.Error("an argument is written to", whole(l.Wells), whole(l.Legs), whole(legs), whole(draws))
	}
	for i := range gates {
		if !slices.Equal(whole(l.Legs[i].Gates), gates[i]) {
			t.Error("gates are written to", i, whole(l.Legs[i].Gates))
		}
	}
}

// spoil overwrites a list with all its memory.
func spoil[T any](l []T, with T) {
	l = l[:cap(l)]
	for i := range l {
		l[i] = with
	}
}

// R3: results share no memory with arguments or with each other, and no call remembers another one.
func TestResults(t *testing.T) {
	l, legs, draws := land(), []int{0, 1}, []api.Draw{draw(1, 0, 4000)}
	l.Legs = append(l.Legs, path(1, 2, 30000), path(1, 2, 30000))
	all := [][]int{{0, 1}, {0, 3}, {0, 4}, {2}}
	for range 2 {
		ways, _ := way.Ways(l, 0, 2, 6, 99, pace())
		for i := range ways {
			if !slices.Equal(ways[i], all[i]) {
				t.Error(i, ways)
			}
			spoil(ways[i], 77)
		}
		spoil(ways, nil)
		stops, _, _ := way.Walk(l, 0, 6, pace(), legs)
		short, _, _ := way.Walk(l, 0, 6, pace(), legs[:1])
		reach, _ := way.Reach(l, 0, 6, pace())
		surest, _ := way.Surest(l, 0, 2, 6, pace())
		has, _, _ := way.Water(l, 1, draws, 2)
		spoil(short, api.Stop{})
		if len(stops) != 2 || stops[0].Well != 1 || !slices.Equal(reach, []api.Span{span(6, 6), span(9, 12), span(10, 14)}) || !slices.Equal(surest, []int{0, 3}) || has != span(1000, 5000) {
			t.Error(stops, reach, surest, has)
		}
		spoil(stops, api.Stop{})
		spoil(reach, span(77, 77))
		spoil(surest, 77)
	}
	// A longer list may have room for one more leg, which is another one for each way.
	long := chain(1, 2, 1, 2, 2)
	ways, _ := way.Ways(long, 0, 5, 0, 9, exactly(1))
	for i, ends := range [][]int{{1, 3, 4, 6}, {1, 3, 4, 7}, {1, 3, 5, 6}, {1, 3, 5, 7}, {2, 3, 4, 6}, {2, 3, 4, 7}, {2, 3, 5, 6}, {2, 3, 5, 7}} {
		if len(ways) != 8 || !slices.Equal(ways[i], append([]int{0}, ends...)) {
			t.Fatal(i, ways)
		}
		spoil(ways[i], 77)
	}
	if !slices.EqualFunc(l.Legs[:3], land().Legs, equalLegs) || !slices.Equal(l.Wells, land().Wells) || !slices.Equal(legs, []int{0, 1}) {
		t.Error(l, legs)
	}
}

// R4: no legs and no gates, a way without legs, and no draws.
func TestNilAndEmpty(t *testing.T) {
	for _, l := range []api.Land{paths(2), {Wells: make([]api.Well, 2), Legs: []api.Leg{}}} {
		for _, c := range []call{{pace: pace()}, {pace: pace(), legs: []int{}, draws: []api.Draw{}}} {
			c.l, c.teams = l, 1
			for name, got := range outcomes(c) {
				if got.e != due(name != "Days" && name != "Leave", api.ErrArg) {
					t.Error(name, got)
				}
			}
		}
		if ways, e := way.Ways(l, 0, 1, 0, 9, pace()); len(ways) != 0 || e != api.OK {
			t.Error(ways, e)
		}
	}
	for _, gates := range [][]api.Gate{nil, {}} {
		l := paths(2, leg(0, 1, exactly(5), gates...))
		s, e := way.Days(l, 0, exactly(2))
		d, f := way.Leave(l, 0, 0, exactly(2))
		if s != exactly(3) || d != exactly(100001) || e != api.OK || f != api.OK {
			t.Error(s, e, d, f)
		}
	}
}
