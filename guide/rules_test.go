package guide_test

import (
	"math"
	"math/rand/v2"
	"slices"
	"testing"
	"time"

	"azalai/api"
	"azalai/guide"
)

// The signatures of the chapter.
var (
	_ func(api.Area) api.Errno                                               = guide.Check
	_ func(east, north api.Span) (api.Area, api.Errno)                       = guide.Start
	_ func(api.Area) (east, north api.Span, e api.Errno)                     = guide.Bounds
	_ func(api.Area, api.Sight) (api.Area, api.Errno)                        = guide.See
	_ func(api.Area, api.Trek) (api.Area, api.Errno)                         = guide.March
	_ func(api.Area, []api.Sight) ([]int, api.Errno)                         = guide.Clash
	_ func(a api.Area, x, y, far int) (uint8, api.Errno)                     = guide.Near
	_ func(api.Area, []api.Trek, int, int, int) (may, sure int, e api.Errno) = guide.Finds
)

// call is all that the functions are called with.
type call struct {
	a           api.Area
	east, north api.Span
	l           api.Sight
	looks       []api.Sight
	t           api.Trek
	treks       []api.Trek
	x, y, far   int
}

// outcome is the error of a call, and whether all its other results are zero values.
type outcome struct {
	e    api.Errno
	zero bool
}

// outcomes calls each function.
func outcomes(c call) map[string]outcome {
	start, d := guide.Start(c.east, c.north)
	east, north, e := guide.Bounds(c.a)
	see, f := guide.See(c.a, c.l)
	march, g := guide.March(c.a, c.t)
	clash, h := guide.Clash(c.a, c.looks)
	near, i := guide.Near(c.a, c.x, c.y, c.far)
	may, sure, j := guide.Finds(c.a, c.treks, c.x, c.y, c.far)
	return map[string]outcome{
		"Check":  {guide.Check(c.a), true},
		"Start":  {d, len(start.Halves) == 0},
		"Bounds": {e, east == api.Span{} && north == api.Span{}},
		"See":    {f, len(see.Halves) == 0},
		"March":  {g, len(march.Halves) == 0},
		"Clash":  {h, len(clash) == 0},
		"Near":   {i, near == 0},
		"Finds":  {j, may == 0 && sure == 0},
	}
}

// R1, R2: of several errors the first one, with zero values.
func TestOrderOfErrors(t *testing.T) {
	bad := field()
	bad.Halves[1].A = -2
	badTrek := trek(exactly(0), exactly(0), span(0, -1))
	// wrong is a call in which all but the area is wrong.
	wrong := func(a api.Area, change func(c *call)) call {
		c := call{a: a, east: span(1, 0), l: star(1, 0), looks: slices.Repeat([]api.Sight{star(1, 0)}, 11), t: badTrek, treks: slices.Repeat([]api.Trek{badTrek}, 61), far: -1}
		change(&c)
		return c
	}
	// full has no room for a look, and no trek leads from it; lost is such an area without a place.
	full := within(span(0, 9), span(0, 9), slices.Repeat([]api.Half{half(1, 1, 100000000000)}, 36)...)
	lost := within(span(0, 9), span(0, 9), slices.Repeat([]api.Half{half(-1, 1, 100000000000), half(0, 1, -1)}, 18)...)
	all := []string{"Check", "Start", "Bounds", "See", "March", "Clash", "Near", "Finds"}
	ok, arg, many, none, filled := api.OK, api.ErrArg, api.ErrMany, api.ErrNone, api.ErrFull
	area, sight, noTrek, nowhere := api.ErrArea, api.ErrSight, api.ErrTrek, api.ErrLost
	for i, x := range []struct {
		c    call
		want []api.Errno // of all, in their order
	}{
		{wrong(bad, func(c *call) {}), []api.Errno{area, arg, area, area, area, area, area, area}},
		{wrong(api.Area{}, func(c *call) {}), []api.Errno{area, arg, area, area, area, area, area, area}},
		{wrong(lost, func(c *call) {}), []api.Errno{ok, arg, nowhere, sight, noTrek, many, arg, arg}},
		{wrong(lost, func(c *call) { c.looks, c.far = c.looks[:10], 0 }), []api.Errno{ok, arg, nowhere, sight, noTrek, sight, nowhere, nowhere}},
		{
			wrong(lost, func(c *call) {
				c.l, c.t, c.looks, c.far = star(0, 0), trek(exactly(1), exactly(-1), exactly(1)), nil, 0
			}),
			[]api.Errno{ok, arg, nowhere, filled, filled, ok, nowhere, nowhere},
		},
		{
			wrong(full, func(c *call) {
				c.l, c.t, c.looks, c.far = star(-1, -1), trek(exactly(1), exactly(0), span(0, 1)), nil, 0
			}),
			[]api.Errno{ok, arg, ok, filled, filled, none, ok, many},
		},
		{
			wrong(full, func(c *call) {
				c.looks, c.far, c.treks = []api.Sight{star(-1, -1), star(1, 0)}, 0, []api.Trek{east(exactly(1)), badTrek}
			}),
			[]api.Errno{ok, arg, ok, sight, noTrek, sight, ok, noTrek},
		},
		{
			wrong(full, func(c *call) { c.far, c.treks = 0, []api.Trek{east(exactly(1))} }),
			[]api.Errno{ok, arg, ok, sight, noTrek, many, ok, filled},
		},
	} {
		got := outcomes(x.c)
		for j, name := range all {
			if got[name].e != x.want[j] || x.want[j] != api.OK && !got[name].zero {
				t.Error(i, name, got[name], "want", x.want[j])
			}
		}
	}
}

// edge returns a number that may be at an edge of a range, or far beyond it.
func edge(r *rand.Rand, least, most int) int {
	switch {
	case r.IntN(300) == 0:
		return []int{math.MinInt, -1 << 32, least - 1, most + 1, 1 << 32, 1 << 62, math.MaxInt}[r.IntN(7)]
	case r.IntN(10) == 0:
		return []int{least, most}[r.IntN(2)]
	}
	return least + r.IntN(most-least+1)
}

func edges(r *rand.Rand, least, most int) api.Span {
	a, b := edge(r, least, most), edge(r, least, most)
	if r.IntN(200) > 0 {
		a, b = min(a, b), max(a, b)
	}
	return span(a, b)
}

func anySight(r *rand.Rand) api.Sight {
	kind := 1 + r.IntN(3)
	if r.IntN(100) == 0 {
		kind = r.IntN(256)
	}
	l := api.Sight{Kind: uint8(kind), X: edge(r, -10000000, 10000000), Y: edge(r, -10000000, 10000000), North: edges(r, -10000000, 10000000), Far: edge(r, 0, 10000000)}
	l.From, l.To = course(edge(r, -1000, 1000), edge(r, -1000, 1000)), course(edge(r, -1000, 1000), edge(r, -1000, 1000))
	if l.From.X*l.To.Y < l.From.Y*l.To.X && r.IntN(100) > 0 {
		l.From, l.To = l.To, l.From
	}
	return l
}

func anyTrek(r *rand.Rand) api.Trek {
	return trek(edges(r, 0, 60), edges(r, -100000, 100000), edges(r, -100000, 100000))
}

// anyCall returns a call that is mostly valid, with numbers from all of their ranges.
func anyCall(r *rand.Rand) call {
	c := call{
		a:    within(edges(r, -10000000, 10000000), edges(r, -10000000, 10000000)),
		east: edges(r, -10000000, 10000000), north: edges(r, -10000000, 10000000),
		l: anySight(r), t: anyTrek(r),
		x: edge(r, -10000000, 10000000), y: edge(r, -10000000, 10000000), far: edge(r, 0, 10000000),
	}
	if r.IntN(5) == 0 {
		c.a.Halves[r.IntN(4)].C = 100000000000
	}
	for range r.IntN(2) * r.IntN(36) {
		c.a.Halves = append(c.a.Halves, half(edge(r, -1000, 1000), edge(r, -1000, 1000), edge(r, -1000000000, 100000000000)))
	}
	for range r.IntN(12) {
		c.looks = append(c.looks, anySight(r))
	}
	for range r.IntN(6) {
		c.treks = append(c.treks, anyTrek(r))
	}
	if r.IntN(20) == 0 {
		c.treks = slices.Repeat(c.treks, 30)
	}
	return c
}

// R5, R6, R7: any values lead to an end without a panic, and to zero values beside an error.
func TestAnyValue(t *testing.T) {
	r := rand.New(rand.NewPCG(4, 7))
	seen := map[api.Errno]int{}
	for range 20000 {
		c := anyCall(r)
		all := outcomes(c)
		for name, got := range all {
			if got.e != api.OK && !got.zero || name != "Start" && (got.e == api.ErrArea) != (all["Check"].e == api.ErrArea) {
				t.Fatal(name, c, got)
			}
			seen[got.e]++
		}
	}
	for _, e := range []api.Errno{api.OK, api.ErrArg, api.ErrMany, api.ErrNone, api.ErrFull, api.ErrArea, api.ErrSight, api.ErrTrek, api.ErrLost} {
		if seen[e] < 200 {
			t.Error(e, seen)
		}
	}
}

// spare returns a list whose memory goes on behind its end.
func spare[T any](l []T, behind T) []T {
	return append(slices.Clone(l), slices.Repeat([]T{behind}, 20)...)[:len(l)]
}

// whole returns a copy of a list and of the memory behind its end that spare made.
func whole[T any](l []T) []T { return slices.Clone(l[:len(l)+20]) }

// R3: no argument is written to, nor what lies behind its end.
func TestArguments(t *testing.T) {
	c := call{a: field(), l: lookA(), t: east(span(1, 2)), far: 5000}
	c.a.Halves = spare(append(c.a.Halves, half(1, 1, 15000)), half(77, 77, 77))
	c.looks = spare([]api.Sight{lookC(), lookB(), star(0, 1000), lookA()}, star(77, 77))
	c.treks = spare([]api.Trek{east(span(1, 2)), east(exactly(-1)), {}}, trek(exactly(7), exactly(7), exactly(7)))
	halves, looks, treks := whole(c.a.Halves), whole(c.looks), whole(c.treks)
	for name, got := range outcomes(c) {
		if got.e != api.OK {
			t.Error(name, got)
		}
	}
	if !slices.Equal(whole(c.a.Halves), halves) || !slices.Equal(whole(c.looks), looks) || !slices.Equal(whole(c.treks), treks) {
		t.Error("an argument is written to", whole(c.a.Halves), whole(c.looks), whole(c.treks))
	}
}

// spoil overwrites a list with all its memory.
func spoil[T any](l []T, with T) {
	l = l[:cap(l)]
	for i := range l {
		l[i] = with
	}
}

// R3: results share no memory with arguments or with each other, and no call remembers another one.
func TestResults(t *testing.T) {
	looks := []api.Sight{star(0, 1000), lookB(), lookC()}
	for range 2 {
		start, _ := guide.Start(span(0, 10000), span(0, 10000))
		again, _ := guide.Start(span(0, 10000), span(0, 10000))
		spoil(again.Halves, half(77, 77, 77))
		see, _ := guide.See(start, lookC())
		next, _ := guide.See(see, lookA())
		other, _ := guide.See(see, lookB())
		march, _ := guide.March(see, east(exactly(1)))
		stay, _ := guide.March(see, api.Trek{})
		clash, _ := guide.Clash(start, looks)
		spoil(stay.Halves, half(77, 77, 77))
		spoil(other.Halves, half(77, 77, 77))
		if !equalAreas(start, field()) || !equalAreas(next, seen(t, field(), lookC(), lookA())) || !equalAreas(see, seen(t, field(), lookC())) || !equalAreas(march, gone(t, seen(t, field(), lookC()), east(exactly(1)))) || !slices.Equal(clash, []int{0, 2}) {
			t.Error(start, see, next, march, clash)
		}
		spoil(start.Halves, half(77, 77, 77))
		spoil(see.Halves, half(77, 77, 77))
		spoil(march.Halves, half(77, 77, 77))
		if !equalAreas(next, seen(t, field(), lookC(), lookA())) {
			t.Error(next)
		}
		spoil(next.Halves, half(77, 77, 77))
		spoil(clash, 77)
	}
}

// R4: no halves, no looks and no treks.
func TestNilAndEmpty(t *testing.T) {
	for _, a := range []api.Area{{}, {Halves: []api.Half{}}} {
		for name, got := range outcomes(call{a: a}) {
			if got.e != due(name == "Start", api.ErrArea) {
				t.Error(name, got)
			}
		}
	}
	for _, c := range []call{{a: field(), l: lookC()}, {a: field(), l: lookC(), looks: []api.Sight{}, treks: []api.Trek{}}} {
		for name, got := range outcomes(c) {
			if got.e != due(name != "Clash", api.ErrNone) {
				t.Error(name, got)
			}
		}
	}
}

// R7: as many halves, looks and treks as there may be end soon.
func TestMost(t *testing.T) {
	// A round area, in which each half makes two corners.
	a := within(span(-1000, 1000), span(-1000, 1000))
	for i := range 36 {
		x, y := int(1000*math.Cos(float64(i)*math.Pi/18)), int(1000*math.Sin(float64(i)*math.Pi/18))
		a.Halves = append(a.Halves, half(x, y, 900000))
	}
	looks := slices.Repeat([]api.Sight{near(0, 0, 5000)}, 9)
	begun := time.Now()
	if l, e := guide.Clash(a, append(looks, near(5000, 5000, 1))); !slices.Equal(l, []int{9}) || e != api.OK {
		t.Error(l, e)
	}
	if may, sure, e := guide.Finds(a, slices.Repeat([]api.Trek{east(span(-1, 1))}, 60), 5000, 0, 4040); may != 60 || sure != -1 || e != api.OK {
		t.Error(may, sure, e)
	}
	if took := time.Since(begun); took > 5*time.Second {
		t.Error(took)
	}
}
