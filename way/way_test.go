package way_test

import (
	"math"
	"slices"
	"testing"

	"azalai/api"
	"azalai/way"
)

func span(lo, hi int) api.Span { return api.Span{Lo: lo, Hi: hi} }

func exactly(n int) api.Span { return span(n, n) }

func gate(opens, shuts api.Span) api.Gate { return api.Gate{Opens: opens, Shuts: shuts} }

// open is a gate from a day to another one.
func open(from, to int) api.Gate { return gate(exactly(from), exactly(to)) }

func leg(from, to int, long api.Span, gates ...api.Gate) api.Leg {
	return api.Leg{From: from, To: to, Long: long, Gates: gates}
}

// path is a leg that takes as many days as it is long at the pace of 1, and is always open.
func path(from, to, days int) api.Leg { return leg(from, to, exactly(days), open(0, 100000)) }

func pace() api.Span { return span(20000, 30000) }

// The land of the chapter's examples.
func land() api.Land {
	return api.Land{
		Wells: []api.Well{{}, {Depth: 20, Yield: span(1000, 2000), Room: 10000, Has: span(3000, 5000)}, {}},
		Legs: []api.Leg{
			leg(0, 1, span(90000, 100000), gate(span(5, 7), span(20, 30))),
			leg(1, 2, span(50000, 50000), gate(span(0, 0), span(12, 13)), gate(span(18, 18), span(40, 50))),
			leg(0, 2, span(200000, 240000), gate(span(0, 0), span(99, 99))),
		},
	}
}

// paths is a land of n wells with some legs.
func paths(n int, legs ...api.Leg) api.Land {
	return api.Land{Wells: make([]api.Well, n), Legs: legs}
}

func stop(leg, well int, leaves, arrives api.Span) api.Stop {
	return api.Stop{Leg: leg, Well: well, Leaves: leaves, Arrives: arrives}
}

func equalWays(a, b [][]int) bool { return slices.EqualFunc(a, b, slices.Equal[[]int]) }

func TestExamples(t *testing.T) {
	for leg, want := range []api.Span{span(3, 5), span(2, 3), span(7, 12)} {
		if s, e := way.Days(land(), leg, pace()); s != want || e != api.OK {
			t.Error("Days", leg, s, e)
		}
	}
	for day, want := range map[int]api.Span{6: span(6, 7), 17: span(17, 100001), 29: span(100001, 100001)} {
		if s, e := way.Leave(land(), 0, day, pace()); s != want || e != api.OK {
			t.Error("Leave", day, s, e)
		}
	}
	stops := []api.Stop{stop(0, 1, span(6, 7), span(9, 12)), stop(1, 2, span(9, 18), span(11, 21))}
	if l, at, e := way.Walk(land(), 0, 6, pace(), []int{0, 1}); !slices.Equal(l, stops) || at != 0 || e != api.OK {
		t.Error("Walk", l, at, e)
	}
	if l, e := way.Reach(land(), 0, 6, pace()); !slices.Equal(l, []api.Span{span(6, 6), span(9, 12), span(11, 18)}) || e != api.OK {
		t.Error("Reach", l, e)
	}
	if l, e := way.Surest(land(), 0, 2, 6, pace()); !slices.Equal(l, []int{2}) || e != api.OK {
		t.Error("Surest", l, e)
	}
	for until, want := range map[int][][]int{20: {{2}}, 21: {{0, 1}, {2}}} {
		if l, e := way.Ways(land(), 0, 2, 6, until, pace()); !equalWays(l, want) || e != api.OK {
			t.Error("Ways", until, l, e)
		}
	}
	if s, at, e := way.Water(land(), 1, []api.Draw{{Well: 1, Day: 0, Water: 4000}}, 2); s != span(1000, 5000) || at != 0 || e != api.OK {
		t.Error("Water", s, at, e)
	}
	if n, e := way.Work(land(), 1, 500000, 2); n != 5 || e != api.OK {
		t.Error("Work", n, e)
	}
}

// due returns no error for what is valid, and a certain one for all else.
func due(valid bool, bad api.Errno) api.Errno {
	if valid {
		return api.OK
	}
	return bad
}

// around are numbers at the edges of a range, and far beyond them, with whether they are in it.
func around(least, most int) map[int]bool {
	return map[int]bool{
		least: true, most: true,
		least - 1: false, most + 1: false, least + 1<<32: false, least - 1<<32: false, math.MinInt: false, math.MaxInt: false,
	}
}

// spansAround are spans at the edges of a range, with whether they are in it, and their ends in order.
func spansAround(least, most int) map[api.Span]bool {
	l := map[api.Span]bool{span(least, most): true, span(most, least): least == most}
	for n, valid := range around(least, most) {
		l[exactly(n)] = valid
		if n <= least {
			l[span(n, most)] = valid
		} else {
			l[span(least, n)] = valid
		}
	}
	return l
}

// P3.1: the range of each number of a land.
func TestCheckNumbers(t *testing.T) {
	for name, x := range map[string]struct {
		least, most int
		of          func(l api.Land) *int
	}{
		"X":     {-10000000, 10000000, func(l api.Land) *int { return &l.Wells[2].X }},
		"Y":     {-10000000, 10000000, func(l api.Land) *int { return &l.Wells[2].Y }},
		"Depth": {0, 200, func(l api.Land) *int { return &l.Wells[2].Depth }},
		"Room":  {0, 1000000000, func(l api.Land) *int { return &l.Wells[2].Room }},
		"Owner": {0, 9999, func(l api.Land) *int { return &l.Wells[2].Owner }},
		"From":  {0, 1, func(l api.Land) *int { return &l.Legs[2].From }},
		"To":    {1, 2, func(l api.Land) *int { return &l.Legs[2].To }},
	} {
		for n, valid := range around(x.least, x.most) {
			l := land()
			*x.of(l) = n
			if e := way.Check(l); e != due(valid, api.ErrLand) {
				t.Error(name, n, e)
			}
		}
	}
}

// P3.1: the range of each span of a land, and its order.
func TestCheckSpans(t *testing.T) {
	for name, x := range map[string]struct {
		least, most int
		of          func(l api.Land) *api.Span
	}{
		"Yield": {0, 10000000, func(l api.Land) *api.Span { return &l.Wells[1].Yield }},
		"Has":   {0, 10000, func(l api.Land) *api.Span { return &l.Wells[1].Has }},
		"Long":  {1, 1000000, func(l api.Land) *api.Span { return &l.Legs[1].Long }},
		"Opens": {0, 100000, func(l api.Land) *api.Span {
			l.Legs[0].Gates[0].Shuts = exactly(100000)
			return &l.Legs[0].Gates[0].Opens
		}},
		"Shuts": {0, 100000, func(l api.Land) *api.Span {
			l.Legs[2].Gates[0].Opens = exactly(0)
			return &l.Legs[2].Gates[0].Shuts
		}},
	} {
		for s, valid := range spansAround(x.least, x.most) {
			l := land()
			*x.of(l) = s
			if e := way.Check(l); e != due(valid, api.ErrLand) {
				t.Error(name, s, e)
			}
		}
	}
}

// P3.1: how many there may be of each, and in which order gates are.
func TestCheckLists(t *testing.T) {
	six := []api.Gate{open(0, 0), open(1, 1), gate(span(2, 9), span(0, 3)), open(4, 4), open(5, 8), open(9, 9)}
	for i, x := range []struct {
		l     api.Land
		valid bool
	}{
		{land(), true},
		{paths(1), true},
		{paths(0), false},
		{api.Land{}, false},
		{paths(12), true},
		{paths(13), false},
		{paths(2, slices.Repeat([]api.Leg{path(1, 0, 1)}, 24)...), true},
		{paths(2, slices.Repeat([]api.Leg{path(1, 0, 1)}, 25)...), false},
		{paths(1, path(0, 1, 1)), false},
		{paths(2, path(1, 1, 1)), false},
		{paths(2, path(0, 1, 1), path(0, 0, 1)), false},
		{paths(2, leg(0, 1, exactly(1))), true},
		{paths(2, leg(0, 1, exactly(1), six...)), true},
		{paths(2, leg(0, 1, exactly(1), append(six, open(20, 20))...)), false},
		// What opens at the earliest when it shuts at the latest may be open; one day more, and it can't be.
		{paths(2, leg(0, 1, exactly(1), gate(span(5, 9), span(0, 5)))), true},
		{paths(2, leg(0, 1, exactly(1), gate(span(6, 9), span(0, 5)))), false},
		// A gate opens after the one before, whenever both are.
		{paths(2, leg(0, 1, exactly(1), gate(span(0, 0), span(3, 5)), gate(span(6, 6), span(9, 9)))), true},
		{paths(2, leg(0, 1, exactly(1), gate(span(0, 0), span(3, 5)), gate(span(5, 6), span(9, 9)))), false},
		{paths(2, leg(0, 1, exactly(1), open(5, 6), open(2, 3))), false},
		{paths(2, leg(0, 1, exactly(1), open(0, 1), open(2, 7), open(7, 8))), false},
		// Each well and each leg counts, also the last one.
		{api.Land{Wells: []api.Well{{}, {Has: span(0, 1)}}}, false},
		{api.Land{Wells: []api.Well{{Room: -1}, {}}}, false},
		{paths(2, path(0, 1, 1), path(0, 1, 0)), false},
		{paths(2, path(0, 1, 0), path(0, 1, 1)), false},
	} {
		if e := way.Check(x.l); e != due(x.valid, api.ErrLand) {
			t.Error(i, e)
		}
	}
}

// P3.1: a pace, the index of a leg, and a day.
func TestCheckArguments(t *testing.T) {
	for s, valid := range spansAround(1, 100000) {
		for name, o := range outcomes(call{l: land(), pace: s, teams: 1}) {
			if want := due(valid || !slices.Contains(paced, name), api.ErrPace); o.e != want {
				t.Error(name, s, o, want)
			}
		}
	}
	for n, valid := range around(0, 2) {
		_, e := way.Days(land(), n, pace())
		_, f := way.Leave(land(), n, 6, pace())
		if want := due(valid, api.ErrArg); e != want || f != want {
			t.Error(n, e, f)
		}
	}
	for n, valid := range around(0, 100000) {
		if _, e := way.Leave(land(), 0, n, pace()); e != due(valid, api.ErrArg) {
			t.Error(n, e)
		}
	}
}

// P3.1: the length divided by the pace, rounded up.
func TestDays(t *testing.T) {
	for i, x := range []struct{ long, pace, want api.Span }{
		{exactly(1), exactly(1), exactly(1)},
		{exactly(1), exactly(100000), exactly(1)},
		{span(1, 1000000), span(1, 100000), span(1, 1000000)},
		{exactly(20), span(10, 20), span(1, 2)},
		{exactly(21), span(10, 20), span(2, 3)},
		{exactly(20), span(10, 19), span(2, 2)},
		{span(19, 20), span(7, 10), span(2, 3)},
		{span(19, 22), span(7, 10), span(2, 4)},
	} {
		if s, e := way.Days(paths(2, leg(0, 1, x.long)), 0, x.pace); s != x.want || e != api.OK {
			t.Error(i, s, e)
		}
	}
}

// P3.1: the first day on which all days of the leg are within one gate.
func TestLeave(t *testing.T) {
	// It takes 2 to 3 days.
	long := span(20, 30)
	for i, x := range []struct {
		gates []api.Gate
		day   int
		want  api.Span
	}{
		{nil, 0, span(100001, 100001)},
		{[]api.Gate{open(5, 7)}, 0, span(5, 5)},
		{[]api.Gate{open(5, 7)}, 5, span(5, 5)},
		{[]api.Gate{open(5, 7)}, 6, span(6, 100001)},
		{[]api.Gate{open(5, 7)}, 7, span(100001, 100001)},
		{[]api.Gate{open(5, 6)}, 0, span(5, 100001)},
		{[]api.Gate{open(5, 5)}, 0, span(100001, 100001)},
		// One leaves for sure when it is open for sure.
		{[]api.Gate{gate(span(5, 8), span(10, 12))}, 0, span(5, 8)},
		{[]api.Gate{gate(span(5, 8), span(9, 12))}, 0, span(5, 100001)},
		{[]api.Gate{gate(span(5, 8), span(10, 12))}, 9, span(9, 100001)},
		{[]api.Gate{gate(span(5, 8), span(10, 12))}, 11, span(11, 100001)},
		{[]api.Gate{gate(span(5, 8), span(10, 12))}, 12, span(100001, 100001)},
		// It may shut before it opens.
		{[]api.Gate{gate(span(5, 9), span(0, 6)), open(20, 22)}, 0, span(5, 20)},
		// Gates are not gone through one after the other, though no day is between them.
		{[]api.Gate{open(0, 4), open(5, 7)}, 3, span(3, 5)},
		{[]api.Gate{open(0, 4), open(5, 7)}, 4, span(5, 5)},
		{[]api.Gate{open(0, 0), open(1, 1), open(2, 2), open(3, 3)}, 0, span(100001, 100001)},
		// Of several gates the first one that will do.
		{[]api.Gate{open(0, 0), open(2, 3), open(5, 7), open(9, 20)}, 0, span(2, 5)},
		{[]api.Gate{open(0, 9), open(11, 20)}, 0, span(0, 0)},
		{[]api.Gate{open(0, 9), open(11, 20)}, 12, span(12, 12)},
		// After MaxDay it is not open.
		{[]api.Gate{open(0, 100000)}, 99998, span(99998, 99998)},
		{[]api.Gate{open(0, 100000)}, 99999, span(99999, 100001)},
		{[]api.Gate{open(0, 100000)}, 100000, span(100001, 100001)},
	} {
		if s, e := way.Leave(paths(2, leg(1, 0, long, x.gates...)), 0, x.day, span(10, 10)); s != x.want || e != api.OK {
			t.Error(i, s, e)
		}
	}
}

// P3.2: by any way, at best by one, for sure by another one.
func TestReach(t *testing.T) {
	never := exactly(100001)
	for i, x := range []struct {
		l         api.Land
		from, day int
		want      []api.Span
	}{
		{paths(1), 0, 100000, []api.Span{exactly(100000)}},
		{paths(3), 1, 5, []api.Span{never, exactly(5), never}},
		{paths(3, path(0, 1, 2), path(2, 1, 3)), 0, 5, []api.Span{exactly(5), exactly(7), exactly(10)}},
		{paths(3, path(0, 1, 2), path(2, 1, 3)), 2, 5, []api.Span{exactly(10), exactly(8), exactly(5)}},
		// Many short legs are faster than one long one.
		{paths(4, path(0, 3, 9), path(0, 1, 2), path(1, 2, 2), path(2, 3, 2)), 0, 0, []api.Span{exactly(0), exactly(2), exactly(4), exactly(6)}},
		// By the one leg it may be open soon, by the other one it is open for sure.
		{paths(2, leg(0, 1, exactly(1), gate(span(1, 9), span(9, 9))), leg(0, 1, exactly(1), open(4, 4))), 0, 0, []api.Span{exactly(0), span(2, 5)}},
		{paths(2, leg(0, 1, exactly(1), gate(span(1, 9), span(8, 9)))), 0, 0, []api.Span{exactly(0), span(2, 100001)}},
		// Behind what may be shut all may be shut.
		{paths(3, leg(0, 1, exactly(1), gate(span(1, 9), span(8, 9))), path(1, 2, 1)), 0, 0, []api.Span{exactly(0), span(2, 100001), span(3, 100001)}},
		// The last day of a leg may be MaxDay, but then one arrives after it.
		{paths(2, path(0, 1, 2)), 0, 99998, []api.Span{exactly(99998), exactly(100000)}},
		{paths(2, path(0, 1, 2)), 0, 99999, []api.Span{exactly(99999), never}},
		{paths(2, leg(0, 1, span(2, 3), open(0, 100000))), 0, 99998, []api.Span{exactly(99998), span(100000, 100001)}},
	} {
		if l, e := way.Reach(x.l, x.from, x.day, exactly(1)); !slices.Equal(l, x.want) || e != api.OK {
			t.Error(i, l, e)
		}
	}
}

// P3.3: one goes a leg both ways, also again, and waits at wells.
func TestWalk(t *testing.T) {
	l := land()
	l.Legs = append(l.Legs, path(2, 1, 60000))
	for i, x := range []struct {
		from, day int
		legs      []int
		want      []api.Stop
	}{
		{2, 100000, nil, nil},
		{2, 0, []int{}, nil},
		{1, 0, []int{0}, []api.Stop{stop(0, 0, span(5, 7), span(8, 12))}},
		{0, 0, []int{0, 0}, []api.Stop{stop(0, 1, span(5, 7), span(8, 12)), stop(0, 0, span(8, 12), span(11, 17))}},
		{0, 6, []int{0, 3}, []api.Stop{stop(0, 1, span(6, 7), span(9, 12)), stop(3, 2, span(9, 12), span(11, 15))}},
		{2, 20, []int{3, 1, 2}, []api.Stop{
			stop(3, 1, span(20, 20), span(22, 23)),
			stop(1, 2, span(22, 23), span(24, 26)),
			stop(2, 0, span(24, 26), span(31, 38)),
		}},
	} {
		if s, at, e := way.Walk(l, x.from, x.day, pace(), x.legs); !slices.Equal(s, x.want) || at != 0 || e != api.OK {
			t.Error(i, s, at, e)
		}
	}
	back := slices.Repeat([]int{3, 1}, 12)
	if s, at, e := way.Walk(paths(2, path(0, 1, 9), path(1, 0, 9), path(0, 1, 9), path(0, 1, 2)), 0, 0, exactly(1), back); len(s) != 24 || s[23] != stop(1, 0, exactly(11*11+2), exactly(132)) || at != 0 || e != api.OK {
		t.Error(s, at, e)
	}
}

// P3.3: what is no way, and what is not sure.
func TestWalkErrors(t *testing.T) {
	late := paths(3, path(0, 1, 1), path(1, 2, 2), leg(1, 2, span(1, 2), open(0, 100000)), leg(0, 1, exactly(1)), leg(0, 1, exactly(1), gate(span(0, 9), span(8, 99))))
	for i, x := range []struct {
		from, day int
		legs      []int
		at        int
		e         api.Errno
	}{
		{0, 0, slices.Repeat([]int{0}, 24), 0, api.OK},
		{0, 0, slices.Repeat([]int{0}, 25), 0, api.ErrMany},
		{0, 0, slices.Repeat([]int{-1}, 25), 0, api.ErrMany},
		{0, 0, []int{-1}, 0, api.ErrBad},
		{0, 0, []int{0, 5}, 1, api.ErrBad},
		{0, 0, []int{0, math.MinInt}, 1, api.ErrBad},
		{0, 0, []int{0, 1, math.MaxInt}, 2, api.ErrBad},
		{0, 0, []int{1}, 0, api.ErrBad},
		{2, 0, []int{0}, 0, api.ErrBad},
		{0, 0, []int{0, 1, 0}, 2, api.ErrBad},
		{0, 0, []int{0, 0, 1}, 2, api.ErrBad},
		{0, 0, []int{0, 1, 1, 1}, 0, api.OK},
		// What is bad counts first, even behind what is shut.
		{0, 0, []int{3, 0, 9}, 2, api.ErrBad},
		{0, 0, []int{3, 1, 0}, 2, api.ErrBad},
		{0, 0, []int{3}, 0, api.ErrShut},
		{0, 0, []int{0, 3}, 1, api.ErrShut},
		{0, 0, []int{0, 3, 3}, 1, api.ErrShut},
		{0, 0, []int{0, 0, 4, 4}, 2, api.ErrShut},
		// One has to arrive until MaxDay, too.
		{0, 99999, []int{0}, 0, api.OK},
		{0, 100000, []int{0}, 0, api.ErrShut},
		{0, 99997, []int{0, 1}, 0, api.OK},
		{0, 99998, []int{0, 1}, 1, api.ErrShut},
		{0, 99998, []int{0, 2}, 1, api.ErrShut},
		{0, 99997, []int{0, 2, 0}, 2, api.ErrBad},
		{0, 99999, []int{0, 1, 1}, 1, api.ErrShut},
		{0, 100000, []int{0, 1}, 0, api.ErrShut},
	} {
		s, at, e := way.Walk(late, x.from, x.day, exactly(1), x.legs)
		if at != x.at || e != x.e || e != api.OK && len(s) != 0 {
			t.Error(i, s, at, e)
		}
	}
}
