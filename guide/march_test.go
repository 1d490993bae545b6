package guide_test

import (
	"slices"
	"testing"

	"azalai/api"
	"azalai/guide"
)

// P4.3: the ranges of a trek.
func TestTreks(t *testing.T) {
	check := func(x api.Trek, valid bool) {
		t.Helper()
		_, e := guide.March(field(), x)
		_, _, f := guide.Finds(field(), []api.Trek{{}, x, {}}, 0, 0, 0)
		if want := due(valid, api.ErrTrek); e != want || f != want {
			t.Error(x, e, f)
		}
	}
	for s, valid := range spansAround(0, 60) {
		check(trek(s, span(-5, 7), span(-5, 7)), valid)
	}
	for s, valid := range spansAround(-100000, 100000) {
		check(trek(span(1, 2), s, span(-5, 7)), valid)
		check(trek(span(1, 2), span(-5, 7), s), valid)
	}
}

// P4.3: how far one goes, and the greater product of each half.
func TestMarch(t *testing.T) {
	slopes := []api.Half{half(3, 5, 100), half(-3, 5, 100), half(3, -5, 100), half(-3, -5, 100), half(0, 7, -1), half(-1000, 0, 0)}
	a := within(span(0, 100), span(-100, 100), slopes...)
	// more is how much farther each half reaches by a number of metres to the west, to the east, to the south and to the north.
	more := func(west, east, south, north int) api.Area {
		far := api.Area{Halves: slices.Clone(a.Halves)}
		for i, by := range []int{east, -west, north, -south, 3*east + 5*north, -3*west + 5*north, 3*east - 5*south, -3*west - 5*south, 7 * north, -1000 * west} {
			far.Halves[i].C += by
		}
		return far
	}
	for i, x := range []struct {
		t    api.Trek
		want api.Area
	}{
		{api.Trek{}, a},
		{trek(span(0, 0), span(-7, 9), span(-8, 3)), a},
		{trek(span(3, 60), exactly(0), exactly(0)), a},
		{trek(exactly(1), exactly(10), exactly(20)), more(10, 10, 20, 20)},
		{trek(span(2, 3), span(10, 11), exactly(0)), more(20, 33, 0, 0)},
		{trek(span(2, 3), exactly(0), span(10, 11)), more(0, 0, 20, 33)},
		{trek(span(2, 3), span(-11, -10), span(10, 11)), more(-33, -20, 20, 33)},
		{trek(span(2, 3), span(10, 11), span(-11, -10)), more(20, 33, -33, -20)},
		{trek(span(2, 3), span(-5, 4), span(-6, 7)), more(-15, 12, -18, 21)},
		{trek(span(0, 3), span(1, 4), span(-9, -7)), more(0, 12, -27, 0)},
		{trek(span(5, 60), span(-100000, 100000), span(-100000, 100000)), more(-6000000, 6000000, -6000000, 6000000)},
	} {
		if got, e := guide.March(a, x.t); !equalAreas(got, x.want) || e != api.OK {
			t.Error(i, got, e, "want", x.want)
		}
	}
}

// P4.3: no C is beyond MaxEdge, to either side; that is said first, also if one is nowhere.
func TestMarchFull(t *testing.T) {
	step := trek(exactly(1), exactly(3), exactly(-2))
	for i, x := range []struct {
		h    api.Half
		fits bool
	}{
		{half(1, 0, 99999999997), true}, {half(1, 0, 99999999998), false},
		{half(-1, 0, 100000000000), true}, {half(-1, 0, -99999999997), true}, {half(-1, 0, -99999999998), false},
		{half(0, 1, -99999999998), true}, {half(0, 1, -99999999999), false},
		{half(0, -1, 99999999998), true}, {half(0, -1, 99999999999), false},
		{half(1000, -1000, 99999995000), true}, {half(1000, -1000, 99999995001), false},
		{half(-1000, 1000, -99999995000), true}, {half(-1000, 1000, -99999995001), false},
	} {
		a := within(span(-9, 9), span(-9, 9), x.h)
		want := due(x.fits, api.ErrFull)
		if x.fits && x.h.C < 0 {
			want = api.ErrLost
		}
		got, e := guide.March(a, step)
		if e != want || e == api.OK && got.Halves[4].C != x.h.C+3*x.h.A-2*x.h.B {
			t.Error(i, got, e)
		}
	}
	for i := range 4 {
		a := within(span(-9, 9), span(-9, 9))
		a.Halves[i].C = 100000000000
		if e := guide.Check(a); e != api.OK {
			t.Error(i, e)
		}
		for _, far := range []api.Span{exactly(1), exactly(-1)} {
			toward := (far.Lo == 1) == (i%2 == 0)
			if _, e := guide.March(a, trek(span(0, 1), far, far)); e != due(!toward, api.ErrFull) {
				t.Error(i, far, e)
			}
		}
	}
}

// P4.3: an area without a place is lost also if it has one after the trek.
func TestMarchLost(t *testing.T) {
	for i, x := range []struct {
		a api.Area
		t api.Trek
	}{
		{nowhere(), api.Trek{}},
		{nowhere(), east(span(-1, 1))},
		{within(span(0, 9), span(0, 9), half(1, 1, -1)), trek(exactly(1), span(-9, 0), span(-9, 0))},
	} {
		if got, e := guide.March(x.a, x.t); len(got.Halves) != 0 || e != api.ErrLost {
			t.Error(i, got, e)
		}
	}
}

// P4.5: a place that is near from all places of an area, from some, or from none, just so.
func TestNear(t *testing.T) {
	// The place 2.5, 2.5, and the line from 0, 10 to 10, 0.
	point := within(span(0, 10), span(0, 10), half(2, 0, 5), half(-2, 0, -5), half(0, 2, 5), half(0, -2, -5))
	line := within(span(0, 10), span(0, 10), half(1, 1, 10), half(-1, -1, -10))
	for i, x := range []struct {
		a         api.Area
		x, y, far int
		want      uint8
	}{
		{field(), 5000, 5000, 5000, 2}, {field(), 5001, 5000, 5000, 1}, {field(), 4999, 5000, 5000, 1}, {field(), 5000, 5001, 5000, 1}, {field(), 5000, 4999, 5000, 1},
		{field(), 5001, 5000, 5001, 2}, {field(), 5000, 4999, 5001, 2}, {field(), 5001, 4999, 5001, 2},
		{field(), -7, 5000, 6, 0}, {field(), -7, 5000, 7, 1}, {field(), 10007, 5000, 6, 0}, {field(), 10007, 5000, 7, 1},
		{field(), 5000, -7, 6, 0}, {field(), 5000, -7, 7, 1}, {field(), 5000, 10007, 6, 0}, {field(), 5000, 10007, 7, 1},
		{field(), 10007, 10007, 7, 1}, {field(), 10007, 10008, 7, 0}, {field(), 5000, 5000, 0, 1}, {field(), 0, 0, 10000, 2}, {field(), 10000, 0, 9999, 1},
		{point, 2, 2, 0, 0}, {point, 3, 3, 0, 0}, {point, 2, 2, 1, 2}, {point, 3, 2, 1, 2}, {point, 1, 3, 1, 0}, {point, 2, 4, 1, 0}, {point, 4, 1, 2, 2},
		{line, 5, 5, 0, 1}, {line, 5, 6, 0, 0}, {line, 5, 6, 1, 1}, {line, 0, 0, 4, 0}, {line, 0, 0, 5, 1}, {line, 0, 0, 9, 1}, {line, 0, 0, 10, 2}, {line, 5, 5, 5, 2},
		{within(span(-10000000, 10000000), exactly(0)), 0, 0, 10000000, 2},
		{within(span(-10000000, 10000000), exactly(0)), 1, 0, 10000000, 1},
		{within(exactly(-10000000), exactly(0)), 10000000, 0, 10000000, 0},
	} {
		if known, e := guide.Near(x.a, x.x, x.y, x.far); known != x.want || e != api.OK {
			t.Error(i, x, known, e)
		}
		may, sure := int(-1), int(-1)
		if x.want > 0 {
			may = 0
		}
		if x.want > 1 {
			sure = 0
		}
		if m, s, e := guide.Finds(x.a, nil, x.x, x.y, x.far); m != may || s != sure || e != api.OK {
			t.Error(i, x, m, s, e)
		}
	}
}

// P4.5: of an area with as many halves as there may be, too.
func TestNearFull(t *testing.T) {
	a := within(span(0, 10), span(0, 10), slices.Repeat([]api.Half{half(1, 1, 10)}, 36)...)
	for i, x := range []struct {
		x, y, far int
		want      uint8
	}{{5, 5, 5, 2}, {5, 5, 0, 1}, {6, 5, 0, 0}, {6, 5, 1, 1}} {
		if known, e := guide.Near(a, x.x, x.y, x.far); known != x.want || e != api.OK {
			t.Error(i, known, e)
		}
	}
}

// P4.5, P4.6: where a place and what is near it may be.
func TestNearArguments(t *testing.T) {
	check := func(x, y, far int, valid bool) {
		t.Helper()
		_, e := guide.Near(field(), x, y, far)
		_, _, f := guide.Finds(field(), nil, x, y, far)
		if want := due(valid, api.ErrArg); e != want || f != want {
			t.Error(x, y, far, e, f)
		}
	}
	for n, valid := range around(-10000000, 10000000) {
		check(n, 0, 5, valid)
		check(0, n, 5, valid)
	}
	for n, valid := range around(0, 10000000) {
		check(0, 0, n, valid)
	}
}

// east is a trek of a day.
func east(pace api.Span) api.Trek { return trek(exactly(1), pace, exactly(0)) }

// P4.6: after how many treks a place is near for the first time, though it is not later on.
func TestFinds(t *testing.T) {
	on, back, still, wide := east(exactly(20)), east(exactly(-20)), api.Trek{}, east(span(19, 21))
	a := within(span(0, 10), span(0, 10))
	for i, x := range []struct {
		treks     []api.Trek
		x, y, far int
		may, sure int
	}{
		{nil, 5, 5, 5, 0, 0},
		{nil, 5, 5, 4, 0, -1},
		{nil, 25, 5, 5, -1, -1},
		{[]api.Trek{on}, 25, 5, 5, 1, 1},
		{[]api.Trek{on}, 25, 5, 4, 1, -1},
		{[]api.Trek{on, on}, 25, 5, 5, 1, 1},
		{[]api.Trek{on, on}, 15, 5, 5, 0, -1},
		{[]api.Trek{on, on}, 65, 5, 5, -1, -1},
		{[]api.Trek{on, on, back, back}, 5, 5, 5, 0, 0},
		{[]api.Trek{on, on, back, back}, 25, 5, 5, 1, 1},
		{[]api.Trek{on, on, back, back}, 45, 5, 5, 2, 2},
		{[]api.Trek{on, on, on, back}, 45, 5, 2, 2, -1},
		{[]api.Trek{still, still, on}, 25, 5, 5, 3, 3},
		{[]api.Trek{wide}, 25, 5, 5, 1, -1},
		{[]api.Trek{wide}, 25, 5, 6, 1, 1},
		{[]api.Trek{wide, back, on}, 25, 5, 5, 1, -1},
		{[]api.Trek{on, back, wide, on}, 45, 5, 6, 4, 4},
		{[]api.Trek{on, back, wide, on}, 45, 5, 30, 1, 1},
		{[]api.Trek{wide, on}, 45, 5, 15, 1, 2},
		{[]api.Trek{wide, wide, wide}, 65, 5, 7, 3, -1},
		{[]api.Trek{wide, wide, wide}, 65, 5, 8, 3, 3},
		{slices.Repeat([]api.Trek{on}, 60), 1205, 5, 5, 60, 60},
		{slices.Repeat([]api.Trek{wide}, 60), 1205, 5, 65, 54, 60},
	} {
		if may, sure, e := guide.Finds(a, x.treks, x.x, x.y, x.far); may != x.may || sure != x.sure || e != api.OK {
			t.Error(i, may, sure, e)
		}
	}
}

// P4.6: too many treks, one that is not valid, and one that leads too far, also after the place is found.
func TestFindsErrors(t *testing.T) {
	still, bad, on := api.Trek{}, trek(exactly(-1), exactly(0), exactly(0)), east(exactly(1))
	edge := field()
	edge.Halves[0].C = 100000000000 - 2
	for i, x := range []struct {
		a     api.Area
		treks []api.Trek
		e     api.Errno
	}{
		{field(), slices.Repeat([]api.Trek{still}, 60), api.OK},
		{field(), slices.Repeat([]api.Trek{still}, 61), api.ErrMany},
		{field(), slices.Repeat([]api.Trek{bad}, 61), api.ErrMany},
		{field(), []api.Trek{bad}, api.ErrTrek},
		{field(), []api.Trek{still, still, bad}, api.ErrTrek},
		{edge, []api.Trek{on, on}, api.OK},
		{edge, []api.Trek{on, on, still}, api.OK},
		{edge, []api.Trek{on, on, on}, api.ErrFull},
		{edge, []api.Trek{on, on, on, east(exactly(-1))}, api.ErrFull},
		{edge, []api.Trek{east(exactly(-1)), on, on, on}, api.OK},
		{edge, []api.Trek{on, on, on, bad}, api.ErrTrek},
	} {
		// The place is near for sure from the beginning, if the area is not too wide.
		for _, place := range []int{5000, -10000000} {
			_, _, e := guide.Finds(x.a, x.treks, place, 5000, 5000)
			if e != x.e {
				t.Error(i, place, e)
			}
		}
	}
}
