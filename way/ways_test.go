package way_test

import (
	"math"
	"slices"
	"testing"

	"azalai/api"
	"azalai/way"
)

// P3.4: the first arrival, then the fewest legs, then the lesser legs.
func TestSurest(t *testing.T) {
	// The last leg opens on 20 only, so that all that come until then arrive together.
	late := leg(1, 2, exactly(1), open(20, 30))
	for i, x := range []struct {
		l             api.Land
		from, to, day int
		want          []int
		e             api.Errno
	}{
		{paths(1), 0, 0, 100000, nil, api.OK},
		{land(), 1, 1, 3, nil, api.OK},
		{paths(2), 0, 1, 0, nil, api.ErrNone},
		{paths(2, path(0, 1, 1)), 0, 1, 0, []int{0}, api.OK},
		{paths(2, path(0, 1, 1)), 1, 0, 99999, []int{0}, api.OK},
		{paths(2, path(0, 1, 1)), 1, 0, 100000, nil, api.ErrNone},
		{paths(2, leg(0, 1, exactly(1), gate(span(0, 9), span(8, 99)))), 0, 1, 0, nil, api.ErrNone},
		{paths(2, path(0, 1, 3), path(0, 1, 2), path(1, 0, 2)), 0, 1, 0, []int{1}, api.OK},
		{paths(2, path(0, 1, 3), path(0, 1, 2), path(1, 0, 2)), 1, 0, 0, []int{1}, api.OK},
		// At best a leg is faster than for sure.
		{paths(2, leg(0, 1, span(1, 5), open(0, 99)), leg(0, 1, exactly(4), open(0, 99))), 0, 1, 0, []int{1}, api.OK},
		// More legs, if one arrives sooner by them; fewer ones, if not.
		{paths(3, path(0, 2, 5), path(0, 1, 2), path(1, 2, 2)), 0, 2, 0, []int{1, 2}, api.OK},
		{paths(3, path(0, 1, 2), path(1, 2, 2), path(0, 2, 4)), 0, 2, 0, []int{2}, api.OK},
		// One need not be at each well as soon as one can.
		{paths(3, path(0, 1, 9), path(0, 1, 2), late), 0, 2, 0, []int{0, 2}, api.OK},
		{paths(4, path(0, 3, 1), path(3, 1, 1), late, path(0, 1, 20)), 0, 2, 0, []int{3, 2}, api.OK},
		{paths(4, path(0, 3, 1), path(3, 1, 1), late, path(0, 1, 21)), 0, 2, 0, []int{0, 1, 2}, api.OK},
		{paths(4, path(0, 3, 9), path(3, 1, 9), late, path(0, 3, 1), path(3, 1, 1)), 0, 2, 0, []int{0, 1, 2}, api.OK},
		{paths(4, path(0, 3, 9), path(3, 1, 9), late, path(0, 3, 1), path(3, 1, 1)), 0, 2, 3, []int{0, 4, 2}, api.OK},
		{paths(4, path(0, 3, 9), path(3, 1, 9), late, path(0, 3, 1), path(3, 1, 1)), 0, 2, 10, []int{0, 4, 2}, api.OK},
		{paths(4, path(0, 3, 9), path(3, 1, 9), late, path(0, 3, 1), path(3, 1, 1)), 0, 2, 11, []int{3, 4, 2}, api.OK},
		// The first place counts more than the second one.
		{paths(3, path(1, 2, 1), path(0, 1, 1), path(1, 2, 1), path(0, 1, 1)), 0, 2, 0, []int{1, 0}, api.OK},
		{paths(4, path(1, 3, 1), path(0, 2, 1), path(2, 3, 1), path(0, 1, 1)), 0, 3, 0, []int{1, 2}, api.OK},
	} {
		if l, e := way.Surest(x.l, x.from, x.to, x.day, exactly(1)); !slices.Equal(l, x.want) || e != x.e {
			t.Error(i, l, e)
		}
	}
}

// P3.5: which ways there are, and in which order.
func TestWays(t *testing.T) {
	square := paths(5, path(2, 3, 1), path(0, 2, 1), path(1, 3, 1), path(1, 2, 1), path(0, 1, 1), path(3, 0, 9), path(3, 4, 1))
	for i, x := range []struct {
		l                    api.Land
		from, to, day, until int
		want                 [][]int
	}{
		{paths(1), 0, 0, 5, 5, [][]int{nil}},
		{paths(1), 0, 0, 5, 4, nil},
		{paths(1), 0, 0, 100000, 100000, [][]int{nil}},
		{paths(2), 0, 1, 0, 100000, nil},
		{land(), 1, 1, 6, 99, [][]int{nil}},
		{square, 0, 0, 0, 99, [][]int{nil}},
		{square, 0, 3, 0, 99, [][]int{{1, 0}, {1, 3, 2}, {4, 2}, {4, 3, 0}, {5}}},
		{square, 0, 3, 0, 9, [][]int{{1, 0}, {1, 3, 2}, {4, 2}, {4, 3, 0}, {5}}},
		{square, 0, 3, 0, 8, [][]int{{1, 0}, {1, 3, 2}, {4, 2}, {4, 3, 0}}},
		{square, 0, 3, 0, 2, [][]int{{1, 0}, {4, 2}}},
		{square, 0, 3, 1, 2, nil},
		{square, 3, 0, 0, 3, [][]int{{0, 1}, {0, 3, 4}, {2, 3, 1}, {2, 4}}},
		{square, 0, 3, 50, 40, nil},
		{paths(2, path(0, 1, 1), path(1, 0, 1)), 1, 0, 99999, 100000, [][]int{{0}, {1}}},
		{paths(2, path(0, 1, 1), path(1, 0, 1)), 1, 0, 100000, 100000, nil},
		// It is sure if it is so at the latest, and all of its legs are.
		{paths(3, leg(0, 1, span(1, 3), open(0, 9)), leg(0, 1, exactly(1), gate(span(0, 5), span(5, 9))), leg(1, 2, exactly(1), open(0, 3))), 0, 2, 0, 4, [][]int{{0, 2}}},
		{paths(3, leg(0, 1, span(1, 3), open(0, 9)), leg(0, 1, exactly(1), gate(span(0, 2), span(5, 9))), leg(1, 2, exactly(1), open(0, 3))), 0, 2, 0, 4, [][]int{{0, 2}, {1, 2}}},
		{paths(3, leg(0, 1, span(1, 3), open(0, 9)), leg(0, 1, exactly(1), gate(span(0, 2), span(5, 9))), leg(1, 2, exactly(1), open(0, 3))), 0, 2, 0, 3, nil},
		{paths(3, leg(0, 1, span(1, 3), open(0, 9)), leg(0, 1, exactly(1), gate(span(0, 9), span(5, 9))), leg(1, 2, exactly(1), open(0, 9))), 0, 2, 0, 9, [][]int{{0, 2}}},
	} {
		if l, e := way.Ways(x.l, x.from, x.to, x.day, x.until, exactly(1)); !equalWays(l, x.want) || e != api.OK {
			t.Error(i, l, e)
		}
	}
}

// chain returns a land with as many paths of a day from each well to the next one as are given.
func chain(many ...int) api.Land {
	l := paths(len(many) + 1)
	for well, n := range many {
		for range n {
			l.Legs = append(l.Legs, path(well, well+1, 1))
		}
	}
	return l
}

// P3.5: 200 ways are not too many, one more is.
func TestWaysFull(t *testing.T) {
	l := chain(5, 5, 8)
	all, e := way.Ways(l, 0, 3, 0, 100, exactly(1))
	if len(all) != 200 || !slices.Equal(all[0], []int{0, 5, 10}) || !slices.Equal(all[199], []int{4, 9, 17}) || e != api.OK {
		t.Error(all, e)
	}
	if !slices.IsSortedFunc(all, slices.Compare[[]int]) {
		t.Error(all)
	}
	l.Legs = append(l.Legs, path(0, 3, 4))
	if all, e := way.Ways(l, 0, 3, 0, 3, exactly(1)); len(all) != 200 || e != api.OK {
		t.Error(all, e)
	}
	if all, e := way.Ways(l, 0, 3, 0, 4, exactly(1)); len(all) != 0 || e != api.ErrFull {
		t.Error(all, e)
	}
	if all, e := way.Ways(chain(24), 1, 0, 0, 1, exactly(1)); len(all) != 24 || e != api.OK {
		t.Error(all, e)
	}
}

// R7: the land with the most ways, which all arrive together, ends soon.
func TestMost(t *testing.T) {
	l := chain(3, 3, 3, 3, 3, 3, 3, 3)
	for i := range l.Legs[21:] {
		l.Legs[21+i].Gates = []api.Gate{open(50000, 60000)}
	}
	for range 20 {
		if legs, e := way.Surest(l, 0, 8, 0, exactly(1)); !slices.Equal(legs, []int{0, 3, 6, 9, 12, 15, 18, 21}) || e != api.OK {
			t.Fatal(legs, e)
		}
		if legs, e := way.Ways(l, 0, 8, 0, 100000, exactly(1)); len(legs) != 0 || e != api.ErrFull {
			t.Fatal(legs, e)
		}
		if legs, e := way.Ways(l, 0, 8, 0, 50000, exactly(1)); len(legs) != 0 || e != api.OK {
			t.Fatal(legs, e)
		}
	}
}

// R7: a way by all of the most wells, and back.
func TestLongest(t *testing.T) {
	l := chain(1, 1, 1, 1, 1, 1, 1, 1, 1, 1, 1)
	there := []int{0, 1, 2, 3, 4, 5, 6, 7, 8, 9, 10}
	back := slices.Clone(there)
	slices.Reverse(back)
	for i, x := range []struct {
		from, to int
		want     []int
	}{{0, 11, there}, {11, 0, back}} {
		legs, e := way.Surest(l, x.from, x.to, 0, exactly(1))
		all, f := way.Ways(l, x.from, x.to, 0, 11, exactly(1))
		none, g := way.Ways(l, x.from, x.to, 0, 10, exactly(1))
		if !slices.Equal(legs, x.want) || !equalWays(all, [][]int{x.want}) || len(none) != 0 || e != api.OK || f != api.OK || g != api.OK {
			t.Error(i, legs, e, all, f, none, g)
		}
	}
}

// P3.2, P3.3, P3.4, P3.5: wells and days.
func TestWellsAndDays(t *testing.T) {
	for n, valid := range around(0, 2) {
		_, e := way.Reach(land(), n, 6, pace())
		_, _, f := way.Walk(land(), n, 6, pace(), nil)
		_, g := way.Surest(land(), n, 0, 6, pace())
		_, h := way.Surest(land(), 0, n, 6, pace())
		_, i := way.Ways(land(), n, 0, 6, 99, pace())
		_, j := way.Ways(land(), 0, n, 6, 99, pace())
		for k, e := range []api.Errno{e, f, g, h, i, j} {
			if e != due(valid, api.ErrArg) {
				t.Error(n, k, e)
			}
		}
	}
	for n, valid := range around(0, 100000) {
		_, e := way.Reach(land(), 0, n, pace())
		_, _, f := way.Walk(land(), 0, n, pace(), nil)
		_, g := way.Surest(land(), 0, 0, n, pace())
		_, h := way.Ways(land(), 0, 0, n, 100000, pace())
		_, i := way.Ways(land(), 0, 2, 0, n, pace())
		for k, e := range []api.Errno{e, f, g, h, i} {
			if e != due(valid, api.ErrArg) {
				t.Error(n, k, e)
			}
		}
	}
}

func draw(well, day, water int) api.Draw { return api.Draw{Well: well, Day: day, Water: water} }

// P3.6: on each day first the yield, up to the room, then the draws.
func TestWater(t *testing.T) {
	for i, x := range []struct {
		day   int
		draws []api.Draw
		want  api.Span
		at    int
		e     api.Errno
	}{
		{0, nil, span(3000, 5000), 0, api.OK},
		{1, nil, span(4000, 7000), 0, api.OK},
		{2, nil, span(5000, 9000), 0, api.OK},
		{3, nil, span(6000, 10000), 0, api.OK},
		{7, nil, span(10000, 10000), 0, api.OK},
		{100000, nil, span(10000, 10000), 0, api.OK},
		// What is drawn on the day that is asked for, or later, is not yet drawn.
		{0, []api.Draw{draw(1, 0, 1000000000)}, span(3000, 5000), 0, api.OK},
		{1, []api.Draw{draw(1, 1, 1000000000), draw(1, 100000, 9)}, span(4000, 7000), 0, api.OK},
		{1, []api.Draw{draw(1, 0, 7000)}, span(0, 0), 0, api.OK},
		{1, []api.Draw{draw(1, 0, 7001)}, span(0, 0), 0, api.ErrDry},
		{1, []api.Draw{draw(1, 0, 4000)}, span(0, 3000), 0, api.OK},
		{1, []api.Draw{draw(1, 0, 3999)}, span(1, 3001), 0, api.OK},
		{2, []api.Draw{draw(1, 0, 5000)}, span(1000, 4000), 0, api.OK},
		{2, []api.Draw{draw(1, 1, 5000)}, span(0, 4000), 0, api.OK},
		// Several on one day.
		{3, []api.Draw{draw(1, 1, 2000), draw(1, 1, 0), draw(1, 1, 1000)}, span(3000, 8000), 0, api.OK},
		{3, []api.Draw{draw(1, 1, 9000), draw(1, 1, 0), draw(1, 1, 1)}, span(0, 0), 2, api.ErrDry},
		{3, []api.Draw{draw(1, 1, 9000), draw(1, 2, 2000)}, span(0, 0), 0, api.OK},
		{3, []api.Draw{draw(1, 1, 9000), draw(1, 2, 2001)}, span(0, 0), 1, api.ErrDry},
		{2, []api.Draw{draw(1, 1, 9000), draw(1, 2, 2001)}, span(0, 0), 0, api.OK},
		// What runs over is lost, and what was drawn makes room.
		{9, []api.Draw{draw(1, 7, 10000)}, span(1000, 2000), 0, api.OK},
		{9, []api.Draw{draw(1, 7, 10001)}, span(0, 0), 0, api.ErrDry},
		{9, []api.Draw{draw(1, 8, 500)}, span(9500, 9500), 0, api.OK},
		{99, []api.Draw{draw(1, 6, 10000), draw(1, 90, 10000), draw(1, 91, 1500)}, span(7000, 10000), 0, api.OK},
		// Other wells are not this one, but they are counted.
		{2, []api.Draw{draw(0, 0, 5), draw(1, 0, 4000), draw(2, 1, 10000)}, span(1000, 5000), 0, api.OK},
		{3, []api.Draw{draw(0, 0, 5), draw(1, 0, 4000), draw(2, 1, 10000), draw(1, 2, 7001)}, span(0, 0), 3, api.ErrDry},
		{3, []api.Draw{draw(0, 0, 5), draw(1, 0, 4000), draw(2, 1, 10000), draw(1, 2, 7000)}, span(0, 0), 0, api.OK},
	} {
		if s, at, e := way.Water(land(), 1, x.draws, x.day); s != x.want || at != x.at || e != x.e {
			t.Error(i, s, at, e)
		}
	}
	if s, at, e := way.Water(land(), 0, []api.Draw{draw(1, 0, 1), draw(0, 0, 1)}, 1); s != span(0, 0) || at != 1 || e != api.ErrDry {
		t.Error(s, at, e)
	}
}

// P3.6: the errors of Water, and their order.
func TestWaterErrors(t *testing.T) {
	for n, valid := range around(0, 2) {
		_, _, e := way.Water(land(), n, nil, 0)
		_, _, f := way.Water(land(), 1, []api.Draw{draw(n, 0, 0)}, 0)
		_, g := way.Work(land(), n, 1, 1)
		if e != due(valid, api.ErrArg) || f != due(valid, api.ErrDraw) || g != due(valid, api.ErrArg) {
			t.Error(n, e, f, g)
		}
	}
	for n, valid := range around(0, 100000) {
		_, _, e := way.Water(land(), 1, nil, n)
		_, _, f := way.Water(land(), 1, []api.Draw{draw(0, n, 0)}, 0)
		if e != due(valid, api.ErrArg) || f != due(valid, api.ErrDraw) {
			t.Error(n, e, f)
		}
	}
	for n, valid := range around(0, 1000000000) {
		_, _, e := way.Water(land(), 1, []api.Draw{draw(0, 0, n)}, 0)
		_, f := way.Work(land(), 1, n, 1)
		if e != due(valid, api.ErrDraw) || f != due(valid, api.ErrArg) {
			t.Error(n, e, f)
		}
	}
	for n, valid := range around(1, 100) {
		if _, e := way.Work(land(), 1, 1, n); e != due(valid, api.ErrArg) {
			t.Error(n, e)
		}
	}
	dry := draw(1, 0, 1000000000)
	for i, x := range []struct {
		well, day int
		draws     []api.Draw
		e         api.Errno
	}{
		{1, 9, slices.Repeat([]api.Draw{draw(1, 8, 1)}, 200), api.OK},
		{1, 9, slices.Repeat([]api.Draw{draw(1, 8, 1)}, 201), api.ErrMany},
		{1, 9, slices.Repeat([]api.Draw{draw(-1, 8, 1)}, 201), api.ErrMany},
		{3, 9, make([]api.Draw, 201), api.ErrArg},
		{1, -1, make([]api.Draw, 201), api.ErrArg},
		{1, 9, []api.Draw{draw(0, 5, 1), draw(1, 5, 1), draw(0, 4, 1)}, api.ErrDraw},
		// A draw that is not valid counts first, even if it is late, elsewhere, or behind a dry one.
		{1, 9, []api.Draw{dry, draw(0, 99, -1)}, api.ErrDraw},
		{1, 9, []api.Draw{dry, draw(3, 99, 1)}, api.ErrDraw},
		{1, 9, []api.Draw{dry, draw(2, 99, 1), draw(2, 98, 1)}, api.ErrDraw},
	} {
		s, at, e := way.Water(land(), x.well, x.draws, x.day)
		if e != x.e || at != 0 || e != api.OK && s != span(0, 0) {
			t.Error(i, s, at, e)
		}
	}
}

// R5: what comes on all days together is more than any well holds.
func TestWaterMost(t *testing.T) {
	l := api.Land{Wells: []api.Well{{Yield: span(1, 10000000), Room: 1000000000, Has: span(0, 1000000000)}}}
	for i, x := range []struct {
		draws []api.Draw
		day   int
		want  api.Span
	}{
		{nil, 100000, span(100000, 1000000000)},
		{[]api.Draw{draw(0, 0, 1000000000)}, 100000, span(99999, 1000000000)},
		{[]api.Draw{draw(0, 0, 1000000000), draw(0, 99999, 1000000000)}, 100000, span(0, 0)},
		{[]api.Draw{draw(0, 0, 1000000000), draw(0, 99, 990000000)}, 100, span(0, 0)},
	} {
		if s, _, e := way.Water(l, 0, x.draws, x.day); s != x.want || e != api.OK {
			t.Error(i, s, e)
		}
	}
}

// P3.6: hours are rounded up.
func TestWork(t *testing.T) {
	for i, x := range []struct{ depth, water, teams, want int }{
		{20, 0, 1, 0},
		{0, 1000000000, 1, 0},
		{1, 1, 1, 1},
		{1, 1000000, 1, 1},
		{1, 1000001, 1, 2},
		{20, 100000, 2, 1},
		{20, 100001, 2, 2},
		{7, 1000000, 3, 3},
		{200, 1000000000, 1, 200000},
		{200, 1000000000, 100, 2000},
		{200, 1, 100, 1},
	} {
		l := land()
		l.Wells[1].Depth = x.depth
		if n, e := way.Work(l, 1, x.water, x.teams); n != x.want || e != api.OK {
			t.Error(i, n, e)
		}
	}
	if n, e := way.Work(land(), 1, math.MaxInt, 1); n != 0 || e != api.ErrArg {
		t.Error(n, e)
	}
}
