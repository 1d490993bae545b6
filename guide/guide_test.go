package guide_test

import (
	"math"
	"slices"
	"testing"

	"azalai/api"
	"azalai/guide"
)

func span(lo, hi int) api.Span { return api.Span{Lo: lo, Hi: hi} }

func exactly(n int) api.Span { return span(n, n) }

func half(a, b, c int) api.Half { return api.Half{A: a, B: b, C: c} }

func mark(x, y int, from, to api.Course) api.Sight {
	return api.Sight{Kind: 1, X: x, Y: y, From: from, To: to}
}

func star(lo, hi int) api.Sight { return api.Sight{Kind: 2, North: span(lo, hi)} }

func near(x, y, far int) api.Sight { return api.Sight{Kind: 3, X: x, Y: y, Far: far} }

func trek(days, east, north api.Span) api.Trek {
	return api.Trek{Days: days, East: east, North: north}
}

// within is the area of all places in two spans that are in some more halves, too.
func within(east, north api.Span, more ...api.Half) api.Area {
	return api.Area{Halves: append([]api.Half{half(1, 0, east.Hi), half(-1, 0, -east.Lo), half(0, 1, north.Hi), half(0, -1, -north.Lo)}, more...)}
}

// The area and the looks of the chapter's examples.

func field() api.Area { return within(span(0, 10000), span(0, 10000)) }

func lookA() api.Sight { return mark(12000, 0, api.Course{X: 1, Y: -1}, api.Course{X: 1, Y: 0}) }

func lookB() api.Sight { return mark(0, 20000, api.Course{X: 0, Y: 1}, api.Course{X: -1, Y: 4}) }

func lookC() api.Sight { return star(9000, 30000) }

// nowhere is a valid area without a place.
func nowhere() api.Area { return within(span(1, 0), span(0, 10000)) }

func equalAreas(a, b api.Area) bool { return slices.Equal(a.Halves, b.Halves) }

// seen returns an area after some looks.
func seen(t *testing.T, a api.Area, looks ...api.Sight) api.Area {
	t.Helper()
	for _, l := range looks {
		next, e := guide.See(a, l)
		if e != api.OK {
			t.Fatal(a, l, e)
		}
		a = next
	}
	return a
}

// gone returns an area after some treks.
func gone(t *testing.T, a api.Area, treks ...api.Trek) api.Area {
	t.Helper()
	for _, trek := range treks {
		next, e := guide.March(a, trek)
		if e != api.OK {
			t.Fatal(a, trek, e)
		}
		a = next
	}
	return a
}

func wantBounds(t *testing.T, a api.Area, east, north api.Span) {
	t.Helper()
	if x, y, e := guide.Bounds(a); x != east || y != north || e != api.OK {
		t.Error(a, x, y, e, "want", east, north)
	}
}

func TestExamples(t *testing.T) {
	start, e := guide.Start(span(0, 10000), span(0, 10000))
	if !equalAreas(start, field()) || e != api.OK {
		t.Error(start, e)
	}
	wantBounds(t, seen(t, start, lookA()), span(0, 10000), span(0, 10000))
	wantBounds(t, seen(t, start, lookA(), lookB()), span(0, 5000), span(0, 10000))
	wantBounds(t, gone(t, seen(t, start, lookC()), trek(span(1, 2), span(1000, 3000), span(-1000, 500))), span(1000, 16000), span(7000, 11000))
	if l, e := guide.Clash(start, []api.Sight{star(0, 1000), lookB(), lookC()}); !slices.Equal(l, []int{0, 2}) || e != api.OK {
		t.Error("Clash", l, e)
	}
	for i, x := range []struct {
		x, y, far int
		want      uint8
	}{{5000, 5000, 5000, 2}, {5000, 5000, 4999, 1}, {20000, 5000, 9999, 0}} {
		if known, e := guide.Near(start, x.x, x.y, x.far); known != x.want || e != api.OK {
			t.Error("Near", i, known, e)
		}
	}
	for i, x := range []struct{ treks, far, may, sure int }{{2, 6000, 0, -1}, {4, 6000, 0, 3}, {4, 5000, 0, -1}} {
		treks := slices.Repeat([]api.Trek{trek(exactly(1), exactly(2000), exactly(0))}, x.treks)
		if may, sure, e := guide.Finds(start, treks, 12000, 5000, x.far); may != x.may || sure != x.sure || e != api.OK {
			t.Error("Finds", i, may, sure, e)
		}
	}
}

// due returns no error for what is valid, and a certain one for all else.
func due(valid bool, bad api.Errno) api.Errno {
	if valid {
		return api.OK
	}
	return bad
}

// around are numbers at the edges of a range, and far beyond them, with whether they are in it.
func around(least, most int) map[int]bool {
	return map[int]bool{
		least: true, most: true,
		least - 1: false, most + 1: false, least + 1<<40: false, least - 1<<40: false, math.MinInt: false, math.MaxInt: false,
	}
}

// spansAround are spans at the edges of a range, with whether they are in it, and their ends in order.
func spansAround(least, most int) map[api.Span]bool {
	l := map[api.Span]bool{span(least, most): true, span(most, least): false, span(least+1, least): false}
	for n, valid := range around(least, most) {
		l[exactly(n)] = valid
		if n <= least {
			l[span(n, most)] = valid
		} else {
			l[span(least, n)] = valid
		}
	}
	return l
}

// P4.1: how many halves there are, the range of their numbers, and the first four of them.
func TestCheck(t *testing.T) {
	for n, valid := range map[int]bool{0: false, 1: false, 3: false, 4: true, 5: true, 40: true, 41: false, 1000: false} {
		a := field()
		a.Halves = append(a.Halves, slices.Repeat([]api.Half{half(1, 2, 3)}, 1000)...)[:n]
		if e := guide.Check(a); e != due(valid, api.ErrArea) {
			t.Error(n, e)
		}
	}
	for n, valid := range around(-1000, 1000) {
		for i, h := range []api.Half{half(n, 0, 0), half(0, n, 0), half(n, n, 0), half(1, n, 0), half(n, -1, 0)} {
			if e := guide.Check(within(exactly(0), exactly(0), half(1, 1, 1), h)); e != due(valid, api.ErrArea) {
				t.Error(n, i, e)
			}
		}
	}
	for n, valid := range around(-100000000000, 100000000000) {
		for i := range 5 {
			a := within(exactly(0), exactly(0), half(1, 1, 1))
			a.Halves[i].C = n
			if e := guide.Check(a); e != due(valid, api.ErrArea) {
				t.Error(n, i, e)
			}
		}
	}
	for i, h := range []api.Half{half(0, 0, 0), half(0, 0, 1), half(0, 0, -1)} {
		if e := guide.Check(within(exactly(0), exactly(0), h)); e != api.ErrArea {
			t.Error(i, e)
		}
	}
}

// P4.1: the A and B of the first four halves are those of an area that is begun, in this order.
func TestFirstFour(t *testing.T) {
	sides := []api.Half{half(1, 0, 7), half(-1, 0, 7), half(0, 1, 7), half(0, -1, 7)}
	if e := guide.Check(api.Area{Halves: sides}); e != api.OK {
		t.Error(e)
	}
	for i := range sides {
		for j, h := range append([]api.Half{half(2, 0, 7), half(-2, 0, 7), half(0, 2, 7), half(0, -2, 7), half(1, 1, 7), half(-1, 1, 7), half(1, -1, 7), half(-1, -1, 7)}, sides...) {
			a := api.Area{Halves: append(slices.Clone(sides), sides...)}
			a.Halves[i] = h
			if e := guide.Check(a); e != due(i+8 == j, api.ErrArea) {
				t.Error(i, j, e)
			}
		}
	}
	if e := guide.Check(api.Area{Halves: append([]api.Half{half(1, 1, 7)}, sides...)}); e != api.ErrArea {
		t.Error(e)
	}
}

// P4.1: an area is begun with two spans of places.
func TestStart(t *testing.T) {
	for s, valid := range spansAround(-10000000, 10000000) {
		for i, x := range [][2]api.Span{{s, span(-5, 7)}, {span(-5, 7), s}} {
			a, e := guide.Start(x[0], x[1])
			if e != due(valid, api.ErrArg) || !valid && len(a.Halves) != 0 {
				t.Error(i, s, a, e)
			}
			if valid {
				if !equalAreas(a, within(x[0], x[1])) || guide.Check(a) != api.OK {
					t.Error(i, s, a)
				}
				wantBounds(t, a, x[0], x[1])
			}
		}
	}
}

// P4.1: spans of whole numbers, also if places are in no whole metre; also of an area that is one place, or a line.
func TestBounds(t *testing.T) {
	wide := span(-1000, 1000)
	for i, x := range []struct {
		more        []api.Half
		east, north api.Span
	}{
		{nil, wide, wide},
		{[]api.Half{half(3, 0, 10), half(-3, 0, -5), half(0, 7, -10), half(0, -7, 18)}, span(1, 4), span(-3, -1)},
		{[]api.Half{half(3, 0, 9), half(-3, 0, -6), half(0, 7, -14), half(0, -7, 21)}, span(2, 3), span(-3, -2)},
		{[]api.Half{half(3, 0, 10), half(-3, 0, -10)}, span(3, 4), wide},
		{[]api.Half{half(3, 0, -10), half(-3, 0, 10)}, span(-4, -3), wide},
		{[]api.Half{half(1, 1, -2000)}, exactly(-1000), exactly(-1000)},
		{[]api.Half{half(1, 1, -1999)}, span(-1000, -999), span(-1000, -999)},
		{[]api.Half{half(-2, -3, -5000)}, exactly(1000), exactly(1000)},
		{[]api.Half{half(1, 2, 0), half(-1, -2, 0)}, wide, span(-500, 500)},
		{[]api.Half{half(1, 2, 0), half(-1, -2, 0), half(2, -1, 1), half(-2, 1, -1)}, span(0, 1), span(-1, 0)},
		{[]api.Half{half(1, 1, 0), half(-1, -1, 0), half(1, -1, 0), half(-1, 1, 0)}, exactly(0), exactly(0)},
		{[]api.Half{half(1, 1, 9), half(1, 1, 1), half(1, 1, 5), half(-1, 0, 0), half(0, -1, 0)}, span(0, 1), span(0, 1)},
		{[]api.Half{half(-1000, 999, -1000000)}, span(1, 1000), span(-1000, 0)},
	} {
		a := within(wide, wide, x.more...)
		if got, _, _ := guide.Bounds(a); got != x.east {
			t.Error(i, "east", got, x.east)
		}
		wantBounds(t, a, x.east, x.north)
	}
}

// lost are areas without a place, each one with the halves of one that has just one place.
func lost() map[*api.Area]api.Area {
	wide := span(-1000, 1000)
	line := []api.Half{half(1, 2, 0), half(-1, -2, 0), half(2, -1, 1), half(-2, 1, -1)}
	all := map[*api.Area]api.Area{}
	for _, x := range [][2]api.Area{
		{within(span(1, 0), wide), within(exactly(0), exactly(3))},
		{within(wide, span(1, 0)), within(exactly(3), exactly(0))},
		{within(wide, wide, half(1, 1, -2001)), within(wide, wide, half(1, 1, -2000))},
		{within(wide, wide, half(-2, 3, -5001)), within(wide, wide, half(-2, 3, -5000))},
		{within(wide, exactly(5), half(3, 0, 10), half(-3, 0, -11)), within(wide, exactly(5), half(3, 0, 10), half(-3, 0, -10))},
		{within(wide, wide, append(line, half(5, 0, 1))...), within(wide, wide, append(line, half(5, 0, 2))...)},
		{within(wide, wide, append(line, half(0, -5, 0))...), within(wide, wide, append(line, half(0, -5, 1))...)},
		{within(wide, wide, half(1, 1, 0), half(-1, 0, -1), half(0, -1, 0)), within(wide, wide, half(1, 1, 0), half(-1, 0, 0), half(0, -1, 0))},
		{within(span(0, 10000000), span(0, 10000000), half(1000, -999, -9990000001)), within(span(0, 10000000), span(0, 10000000), half(1000, -999, -9990000000))},
	} {
		all[&x[0]] = x[1]
	}
	return all
}

// P4.1 to P4.6: an area without a place is lost; one with a single place is not.
func TestLost(t *testing.T) {
	for a, one := range lost() {
		for name, got := range outcomes(call{a: *a, l: star(-10000000, 10000000), far: 10000000}) {
			want := api.ErrLost
			switch name {
			case "Check", "Start", "Clash":
				want = api.OK
			}
			if got.e != want {
				t.Error(*a, name, got, want)
			}
		}
		for name, got := range outcomes(call{a: one, l: star(-10000000, 10000000), far: 10000000}) {
			if got.e != due(name != "Clash", api.ErrNone) {
				t.Error(one, name, got)
			}
		}
	}
}

// course is a direction.
func course(x, y int) api.Course { return api.Course{X: x, Y: y} }

// P4.2: the halves of each look, in their order, at the end.
func TestSeeHalves(t *testing.T) {
	a := within(span(-10000000, 10000000), span(-10000000, 10000000), half(1, 1, 20000000))
	for i, x := range []struct {
		l    api.Sight
		want []api.Half
	}{
		{mark(12000, 0, course(1, -1), course(1, 0)), []api.Half{half(1, 1, 12000), half(0, -1, 0)}},
		{mark(0, 20000, course(0, 1), course(-1, 4)), []api.Half{half(-1, 0, 0), half(4, 1, 20000)}},
		{mark(30, -70, course(-2, -3), course(5, -7)), []api.Half{half(3, -2, 140+90), half(-7, -5, -210+350)}},
		{mark(30, -70, course(-2, 3), course(-5, -7)), []api.Half{half(-3, -2, 140-90), half(-7, 5, -210-350)}},
		{star(-3, 8), []api.Half{half(0, 1, 8), half(0, -1, 3)}},
		{star(4, 4), []api.Half{half(0, 1, 4), half(0, -1, -4)}},
		{near(30, -70, 8), []api.Half{half(1, 0, 38), half(-1, 0, -22), half(0, 1, -62), half(0, -1, 78)}},
		{near(-5, 6, 0), []api.Half{half(1, 0, -5), half(-1, 0, 5), half(0, 1, 6), half(0, -1, -6)}},
		// The greatest numbers.
		{mark(-10000000, 10000000, course(1000, 1), course(999, 1000)), []api.Half{half(-1, 1000, 10010000000), half(1000, -999, -19990000000)}},
		{mark(10000000, 10000000, course(1000, -1000), course(1000, 1000)), []api.Half{half(1000, 1000, 20000000000), half(1000, -1000, 0)}},
		{near(10000000, -10000000, 10000000), []api.Half{half(1, 0, 20000000), half(-1, 0, 0), half(0, 1, 0), half(0, -1, 20000000)}},
	} {
		got, e := guide.See(a, x.l)
		if want := slices.Concat(a.Halves, x.want); !slices.Equal(got.Halves, want) || e != api.OK {
			t.Error(i, got, e, "want", want)
		}
	}
}

// P4.2: which looks are valid, by their kinds.
func TestSights(t *testing.T) {
	sees := func(l api.Sight) bool {
		a := within(span(-10000000, 10000000), span(-10000000, 10000000))
		_, e := guide.See(a, l)
		if e == api.ErrLost {
			e = api.OK
		}
		_, f := guide.Clash(a, []api.Sight{star(0, 0), l})
		if f == api.ErrNone {
			f = api.OK
		}
		if e != f || e != api.OK && e != api.ErrSight {
			t.Error(l, e, f)
		}
		return e == api.OK
	}
	for kind := range 256 {
		l := api.Sight{Kind: uint8(kind), From: course(1, 0), To: course(0, 1)}
		if valid := 1 <= kind && kind <= 3; sees(l) != valid {
			t.Error(l)
		}
	}
	for n, valid := range around(-10000000, 10000000) {
		for _, l := range []api.Sight{mark(n, 0, course(1, 0), course(0, 1)), mark(0, n, course(1, 0), course(0, 1)), near(n, 0, 3), near(0, n, 3)} {
			if sees(l) != valid {
				t.Error(l)
			}
		}
	}
	for n, valid := range around(0, 10000000) {
		if l := near(0, 0, n); sees(l) != valid {
			t.Error(l)
		}
	}
	for s, valid := range spansAround(-10000000, 10000000) {
		if l := (api.Sight{Kind: 2, North: s}); sees(l) != valid {
			t.Error(l)
		}
	}
	for n, valid := range around(-1000, 1000) {
		for _, l := range []api.Sight{mark(0, 0, course(n, -1), course(n, 1)), mark(0, 0, course(1, n), course(-1, n)), mark(0, 0, course(n, 0), course(0, n)), mark(0, 0, course(1, 1), course(n, 1000)), mark(0, 0, course(1000, n), course(1, 1))} {
			turns := l.From.X*l.To.Y-l.From.Y*l.To.X > 0
			if sees(l) != (valid && turns) {
				t.Error(l)
			}
		}
	}
}

// P4.2: a landmark is seen in directions that turn to the left, by less than half a circle.
func TestTurns(t *testing.T) {
	// All directions, one after the other to the left.
	circle := []api.Course{{X: 5, Y: 0}, {X: 1000, Y: 999}, {X: 1, Y: 1}, {X: 0, Y: 7}, {X: -3, Y: 3}, {X: -5, Y: 0}, {X: -1000, Y: -999}, {X: -1, Y: -1}, {X: 0, Y: -1}, {X: 2, Y: -2}}
	for i, from := range circle {
		for j, to := range circle {
			turn := (j - i + 10) % 10
			l := mark(10, -20, from, to)
			if e := sightError(l); e != due(0 < turn && turn < 5, api.ErrSight) {
				t.Error(l, e)
			}
		}
		for _, l := range []api.Sight{mark(0, 0, from, course(0, 0)), mark(0, 0, course(0, 0), from)} {
			if e := sightError(l); e != api.ErrSight {
				t.Error(l, e)
			}
		}
	}
	if e := sightError(mark(0, 0, course(0, 0), course(0, 0))); e != api.ErrSight {
		t.Error(e)
	}
}

// sightError is the error of a look in a wide area.
func sightError(l api.Sight) api.Errno {
	_, e := guide.See(within(span(-10000000, 10000000), span(-10000000, 10000000)), l)
	return e
}

// P4.2: numbers that do not matter for a kind may be anything.
func TestOtherNumbers(t *testing.T) {
	wild := api.Sight{X: math.MinInt, Y: math.MaxInt, From: course(math.MaxInt, math.MinInt), To: course(-1001, 1001), North: span(1, math.MinInt), Far: -1}
	a, b, c := wild, wild, wild
	a.Kind, a.X, a.Y, a.From, a.To = 1, 12000, 0, course(1, -1), course(1, 0)
	b.Kind, b.North = 2, span(9000, 30000)
	c.Kind, c.X, c.Y, c.Far = 3, 5, 6, 7
	for i, x := range [][2]api.Sight{{a, lookA()}, {b, lookC()}, {c, near(5, 6, 7)}} {
		got, e := guide.See(field(), x[0])
		if want := seen(t, field(), x[1]); !equalAreas(got, want) || e != api.OK {
			t.Error(i, got, e)
		}
	}
}

// P4.2: how many halves there may be; a look that leaves no place is lost, one that leaves a single place is not.
func TestSeeFull(t *testing.T) {
	for n := 34; n <= 40; n++ {
		a := within(span(0, 5), span(0, 5), slices.Repeat([]api.Half{half(1, 1, 7)}, n-4)...)
		for i, x := range []struct {
			l    api.Sight
			most int
		}{{mark(9, 0, course(1, -1), course(1, 1)), 38}, {star(0, 9), 38}, {near(0, 0, 9), 36}, {star(6, 9), 38}, {near(9, 9, 1), 36}} {
			want := due(n <= x.most, api.ErrFull)
			if want == api.OK && i >= 3 {
				want = api.ErrLost
			}
			if got, e := guide.See(a, x.l); e != want || e == api.OK && guide.Check(got) != api.OK {
				t.Error(n, i, e)
			}
		}
	}
	for i, x := range []struct {
		fits, lost api.Sight
	}{
		{star(10000, 10001), star(10001, 10002)},
		{star(-5, 0), star(-5, -1)},
		{near(11000, 5000, 1000), near(11000, 5000, 999)},
		{near(-1000, 5000, 1000), near(-1000, 5000, 999)},
		{near(5000, 12000, 2000), near(5000, 12000, 1999)},
		{near(5000, -2000, 2000), near(5000, -2000, 1999)},
		{mark(0, 0, course(1, 0), course(0, 1)), mark(0, -1, course(1, 0), course(0, 1))},
		{mark(10000, 10000, course(-1, 0), course(0, -1)), mark(10001, 10000, course(-1, 0), course(0, -1))},
		{mark(5000, 20000, course(1, 2), course(-1, 2)), mark(5000, 20000, course(-1, -2), course(1, -2))},
	} {
		if _, e := guide.See(field(), x.fits); e != api.OK {
			t.Error(i, e)
		}
		if _, e := guide.See(field(), x.lost); e != api.ErrLost {
			t.Error(i, e)
		}
	}
}
