package guide_test

import (
	"math/big"
	"math/rand/v2"
	"slices"
	"testing"

	"azalai/api"
	"azalai/guide"
)

// line is all numbers of which a times are at most c.
type line struct{ a, c int }

// shadow returns what is known of the east in some halves: each pair of them, one above and one below, is summed so that the north is gone.
func shadow(halves []api.Half) []line {
	var l []line
	for _, h := range halves {
		if h.B == 0 {
			l = append(l, line{h.A, h.C})
		}
		for _, g := range halves {
			if g.B > 0 && h.B < 0 {
				l = append(l, line{g.B*h.A - h.B*g.A, g.B*h.C - h.B*g.C})
			}
		}
	}
	return l
}

// reaches returns from where to where the places in some halves are to the east; nil if there are none.
func reaches(halves []api.Half) []*big.Rat {
	var lo, hi *big.Rat
	for _, l := range shadow(halves) {
		switch {
		case l.a == 0 && l.c < 0:
			return nil
		case l.a > 0:
			if at := big.NewRat(int64(l.c), int64(l.a)); hi == nil || at.Cmp(hi) < 0 {
				hi = at
			}
		case l.a < 0:
			if at := big.NewRat(int64(l.c), int64(l.a)); lo == nil || at.Cmp(lo) > 0 {
				lo = at
			}
		}
	}
	if lo.Cmp(hi) > 0 {
		return nil
	}
	return []*big.Rat{lo, hi}
}

// turned are halves with the east and the north exchanged.
func turned(halves []api.Half) []api.Half {
	var l []api.Half
	for _, h := range halves {
		l = append(l, half(h.B, h.A, h.C))
	}
	return l
}

// wholes returns the least span of whole numbers in which two numbers are.
func wholes(ends []*big.Rat) api.Span {
	one := big.NewInt(1)
	lo := new(big.Int).Div(ends[0].Num(), ends[0].Denom())
	hi := new(big.Int).Div(new(big.Int).Sub(new(big.Int).Add(ends[1].Num(), ends[1].Denom()), one), ends[1].Denom())
	return span(int(lo.Int64()), int(hi.Int64()))
}

func number(r *rand.Rand, least, most int) int { return least + r.IntN(most-least+1) }

// someArea returns an area of few numbers, so that edges often meet in one place, and its places may be none, one, or a line.
func someArea(r *rand.Rand) api.Area {
	a := within(span(number(r, -6, 1), number(r, 0, 6)), span(number(r, -6, 1), number(r, 0, 6)))
	for range r.IntN(7) {
		if h := half(number(r, -3, 3), number(r, -3, 3), number(r, -4, 12)); h.A != 0 || h.B != 0 {
			a.Halves = append(a.Halves, h)
		}
	}
	return a
}

// hugeArea returns an area of great numbers whose edges all go by one place, or just not.
func hugeArea(r *rand.Rand) api.Area {
	x, y := number(r, -50000000, 50000000), number(r, -50000000, 50000000)
	beside := func() int { return []int{0, 0, 0, 0, 0, 1, -1, 2, 100, 100000}[r.IntN(10)] }
	a := within(span(x-number(r, 0, 50000000), x+beside()), span(y-number(r, 0, 1)*number(r, 0, 50000000), y+number(r, 0, 50000000)))
	for range r.IntN(30) {
		h := half(number(r, -1000, 1000), number(r, -1000, 1000), 0)
		if r.IntN(4) == 0 {
			h.A, h.B = number(r, 998, 1000), number(r, -1000, -998)
		}
		if h.A != 0 || h.B != 0 {
			h.C = h.A*x + h.B*y + beside()
			a.Halves = append(a.Halves, h)
		}
	}
	return a
}

func oneArea(r *rand.Rand) api.Area {
	if r.IntN(3) == 0 {
		return hugeArea(r)
	}
	return someArea(r)
}

// P4.1, P4.8, N4: Bounds are those of all places, as narrow as whole numbers can be.
func TestBoundsTruths(t *testing.T) {
	r := rand.New(rand.NewPCG(4, 1))
	seen := map[string]int{}
	for range 20000 {
		a := oneArea(r)
		east, north, e := guide.Bounds(a)
		x, y := reaches(a.Halves), reaches(turned(a.Halves))
		if (x == nil) != (y == nil) || e != due(x != nil, api.ErrLost) {
			t.Fatal(a, e, x, y)
		}
		if x == nil {
			seen["lost"]++
			continue
		}
		if east != wholes(x) || north != wholes(y) {
			t.Fatal(a, east, north, x, y)
		}
		switch {
		case x[0].Cmp(x[1]) == 0 && y[0].Cmp(y[1]) == 0:
			seen["point"]++
		case !x[0].IsInt() && !x[1].IsInt():
			seen["fractions"]++
		default:
			seen["wide"]++
		}
	}
	for _, kind := range []string{"lost", "point", "fractions", "wide"} {
		if seen[kind] < 500 {
			t.Error(kind, seen)
		}
	}
}

// inside tells whether all from one number to another one is in a span.
func inside(ends []*big.Rat, s api.Span) bool {
	return ends[0].Cmp(big.NewRat(int64(s.Lo), 1)) >= 0 && ends[1].Cmp(big.NewRat(int64(s.Hi), 1)) <= 0
}

// P4.5, P4.9: a place is near for sure just if all places of an area are so, and not near just if none is.
func TestNearTruths(t *testing.T) {
	r := rand.New(rand.NewPCG(4, 5))
	seen := map[uint8]int{}
	for range 20000 {
		a := someArea(r)
		px, py, far := number(r, -9, 9), number(r, -9, 9), number(r, 0, 9)
		x, y := reaches(a.Halves), reaches(turned(a.Halves))
		if x == nil {
			continue
		}
		want := uint8(api.KnownOpen)
		east, north := span(px-far, px+far), span(py-far, py+far)
		if inside(x, east) && inside(y, north) {
			want = api.KnownYes
		} else if reaches(append(within(east, north).Halves, a.Halves...)) == nil {
			want = api.KnownNo
		}
		if known, e := guide.Near(a, px, py, far); known != want || e != api.OK {
			t.Fatal(a, px, py, far, known, e, want)
		}
		seen[want]++
	}
	if seen[0] < 1000 || seen[1] < 1000 || seen[2] < 1000 {
		t.Error(seen)
	}
}

// someSight returns a look of few numbers.
func someSight(r *rand.Rand) api.Sight {
	switch r.IntN(3) {
	case 0:
		for {
			from, to := course(number(r, -3, 3), number(r, -3, 3)), course(number(r, -3, 3), number(r, -3, 3))
			if from.X*to.Y > from.Y*to.X {
				return mark(number(r, -6, 6), number(r, -6, 6), from, to)
			}
		}
	case 1:
		lo := number(r, -6, 5)
		return star(lo, lo+number(r, 0, 5))
	}
	return near(number(r, -7, 7), number(r, -7, 7), number(r, 0, 6))
}

// lookedFrom returns an area for looks of few numbers; in the wide one it often takes three of them to contradict each other.
func lookedFrom(r *rand.Rand) api.Area {
	if r.IntN(2) == 0 {
		return within(span(-20, 20), span(-20, 20))
	}
	return someArea(r)
}

// The halves of a look, by the table of the chapter.
func halvesOf(l api.Sight) []api.Half {
	switch l.Kind {
	case 1:
		f, g := l.From, l.To
		return []api.Half{half(-f.Y, f.X, f.X*l.Y-f.Y*l.X), half(g.Y, -g.X, g.Y*l.X-g.X*l.Y)}
	case 2:
		return []api.Half{half(0, 1, l.North.Hi), half(0, -1, -l.North.Lo)}
	}
	return []api.Half{half(1, 0, l.X+l.Far), half(-1, 0, l.Far-l.X), half(0, 1, l.Y+l.Far), half(0, -1, l.Far-l.Y)}
}

// contradict tells whether looks contradict each other in an area, those at some places.
func contradict(a api.Area, looks []api.Sight, at []int) bool {
	halves := slices.Clone(a.Halves)
	for _, i := range at {
		halves = append(halves, halvesOf(looks[i])...)
	}
	return reaches(halves) == nil
}

func but(l []int, i int) []int {
	return slices.DeleteFunc(slices.Clone(l), func(n int) bool { return n == i })
}

// P4.4, P4.10: looks that are named contradict each other, and without any one of them they do not; they are those that the first ones leave.
func TestClashTruths(t *testing.T) {
	r := rand.New(rand.NewPCG(4, 10))
	seen := map[int]int{}
	for range 8000 {
		a := lookedFrom(r)
		var looks []api.Sight
		var all []int
		for i := range r.IntN(11) {
			looks, all = append(looks, someSight(r)), append(all, i)
		}
		got, e := guide.Clash(a, looks)
		if e != due(contradict(a, looks, all), api.ErrNone) {
			t.Fatal(a, looks, got, e)
		}
		if e != api.OK {
			seen[-1]++
			continue
		}
		if !contradict(a, looks, got) {
			t.Fatal(a, looks, got, "do not contradict each other")
		}
		for _, i := range got {
			if contradict(a, looks, but(got, i)) {
				t.Fatal(a, looks, got, "contradict each other without", i)
			}
		}
		for i := range looks {
			if contradict(a, looks, but(all, i)) {
				all = but(all, i)
			}
		}
		if !slices.Equal(got, all) {
			t.Fatal(a, looks, got, all)
		}
		seen[len(got)]++
	}
	if seen[-1] < 300 || seen[0] < 300 || seen[1] < 300 || seen[2] < 300 || seen[3] < 100 {
		t.Error(seen)
	}
}

// place is where a caravan really is, in sixths of a metre.
type place struct{ x, y int }

const sixths = 6

// in tells whether a place is in an area.
func (p place) in(a api.Area) bool {
	return !slices.ContainsFunc(a.Halves, func(h api.Half) bool { return h.A*p.x+h.B*p.y > sixths*h.C })
}

func (p place) isNear(x, y, far int) bool {
	return max(p.x-sixths*x, sixths*x-p.x, p.y-sixths*y, sixths*y-p.y) <= sixths*far
}

// below returns the greatest whole number that is at most some sixths.
func below(n int) int {
	for n%sixths != 0 {
		n--
	}
	return n / sixths
}

// trueSight returns a look that is true of a place, often just so.
func trueSight(r *rand.Rand, p place) api.Sight {
	slack := func() int { return r.IntN(2) * r.IntN(2000) }
	switch r.IntN(3) {
	case 0:
		for {
			// A landmark lies so many times the one direction, and so many times the other one, away.
			from, to := course(number(r, -1000, 1000), number(r, -1000, 1000)), course(number(r, -1000, 1000), number(r, -1000, 1000))
			m, n := r.IntN(4)*r.IntN(20), r.IntN(4)*r.IntN(20)
			x, y := p.x+m*from.X+n*to.X, p.y+m*from.Y+n*to.Y
			if from.X*to.Y > from.Y*to.X && x%sixths == 0 && y%sixths == 0 {
				return mark(x/sixths, y/sixths, from, to)
			}
		}
	case 1:
		return star(below(p.y)-slack(), below(p.y+5)+slack())
	}
	x, y := below(p.x)+number(r, -2000, 2000), below(p.y)+number(r, -2000, 2000)
	for far := slack(); ; far++ {
		if p.isNear(x, y, far) {
			return near(x, y, far)
		}
	}
}

// trueTrek returns a trek, and a place to which it really leads from another one.
func trueTrek(r *rand.Rand, p place) (api.Trek, place) {
	// Days are in halves, and metres a day in thirds.
	days := r.IntN(9)
	east, north := number(r, -900, 900), number(r, -900, 900)
	known := func(n, parts, least int) api.Span {
		lo, hi := n, n+parts-1
		for lo%parts != 0 {
			lo--
		}
		for hi%parts != 0 {
			hi--
		}
		return span(max(least, lo/parts-r.IntN(2)*r.IntN(5)), hi/parts+r.IntN(2)*r.IntN(5))
	}
	t := trek(known(days, 2, 0), known(east, 3, -100000), known(north, 3, -100000))
	return t, place{p.x + days*east, p.y + days*north}
}

// begin returns a place, and an area in which it is, not much wider than a number of metres.
func begin(t *testing.T, r *rand.Rand, wide int) (place, api.Area) {
	t.Helper()
	p := place{number(r, -60000, 60000), number(r, -60000, 60000)}
	if r.IntN(2) == 0 {
		p.x, p.y = below(p.x)*sixths, below(p.y)*sixths
	}
	around := func(n int) api.Span { return span(below(n)-r.IntN(wide), below(n+5)+r.IntN(wide)) }
	east, north := around(p.x), around(p.y)
	a, e := guide.Start(east, north)
	if e != api.OK || !p.in(a) {
		t.Fatal(p, a, e)
	}
	return p, a
}

// wantIn checks that a caravan is in an area, in its Bounds, and near what it is said to be near.
func wantIn(t *testing.T, r *rand.Rand, p place, a api.Area) {
	t.Helper()
	east, north, e := guide.Bounds(a)
	if e != api.OK || !p.in(a) || p.x < sixths*east.Lo || p.x > sixths*east.Hi || p.y < sixths*north.Lo || p.y > sixths*north.Hi {
		t.Fatal(p, a, east, north, e)
	}
	x, y, far := below(p.x)+number(r, -1500, 1500), below(p.y)+number(r, -1500, 1500), r.IntN(3000)
	if known, e := guide.Near(a, x, y, far); e != api.OK || known == api.KnownYes && !p.isNear(x, y, far) || known == api.KnownNo && p.isNear(x, y, far) {
		t.Fatal(p, a, x, y, far, known, e)
	}
}

// P4.7, N4: whatever is true, the caravan is where it is said to be, and true looks never contradict each other.
func TestTruths(t *testing.T) {
	r := rand.New(rand.NewPCG(4, 7))
	kinds := map[uint8]int{}
	for range 1500 {
		p, a := begin(t, r, 3000)
		for range 8 {
			var looks []api.Sight
			for range r.IntN(3) {
				looks = append(looks, trueSight(r, p))
			}
			if l, e := guide.Clash(a, looks); e != api.ErrNone {
				t.Fatal(p, a, looks, l, e)
			}
			for _, l := range looks {
				next, e := guide.See(a, l)
				if e == api.ErrFull {
					break
				}
				if e != api.OK {
					t.Fatal(p, a, l, e)
				}
				a = next
				wantIn(t, r, p, a)
				kinds[l.Kind]++
			}
			var x api.Trek
			x, p = trueTrek(r, p)
			a = gone(t, a, x)
			wantIn(t, r, p, a)
		}
	}
	if kinds[1] < 1000 || kinds[2] < 1000 || kinds[3] < 1000 {
		t.Error(kinds)
	}
}

// P4.6, P4.9, N4: after as many treks as are said a place is near, whatever is true, and it is not before; and these are the first ones by Near.
func TestFindsTruths(t *testing.T) {
	r := rand.New(rand.NewPCG(4, 9))
	found := map[string]int{}
	for range 4000 {
		p, a := begin(t, r, 300)
		first := a
		var treks []api.Trek
		route := []place{p}
		areas := []api.Area{a}
		for range r.IntN(7) {
			var x api.Trek
			x, p = trueTrek(r, p)
			a = gone(t, a, x)
			treks, route, areas = append(treks, x), append(route, p), append(areas, a)
		}
		goal := route[r.IntN(len(route))]
		x, y, far := below(goal.x)+number(r, -200, 200), below(goal.y)+number(r, -200, 200), r.IntN(1000)
		may, sure, e := guide.Finds(first, treks, x, y, far)
		is := func(ok func(uint8) bool) int {
			return slices.IndexFunc(areas, func(a api.Area) bool {
				known, _ := guide.Near(a, x, y, far)
				return ok(known)
			})
		}
		if e != api.OK || may != is(func(k uint8) bool { return k != api.KnownNo }) || sure != is(func(k uint8) bool { return k == api.KnownYes }) {
			t.Fatal(first, treks, x, y, far, may, sure, e)
		}
		if sure >= 0 && !route[sure].isNear(x, y, far) {
			t.Fatal("is missed", first, treks, route, x, y, far, sure)
		}
		if at := slices.IndexFunc(route, func(p place) bool { return p.isNear(x, y, far) }); at >= 0 && (may < 0 || at < may) {
			t.Fatal("is found", first, treks, route, x, y, far, may)
		}
		if may > 0 {
			found["may"]++
		}
		if sure > 0 {
			found["sure"]++
		}
	}
	if found["may"] < 500 || found["sure"] < 300 {
		t.Error(found)
	}
}

// bounds returns what Bounds tells.
func bounds(a api.Area) [2]api.Span {
	east, north, _ := guide.Bounds(a)
	return [2]api.Span{east, north}
}

func isWithin(a, b [2]api.Span) bool {
	return b[0].Lo <= a[0].Lo && a[0].Hi <= b[0].Hi && b[1].Lo <= a[1].Lo && a[1].Hi <= b[1].Hi
}

// P4.8: looks tell the same in any order; one more widens nothing, and one that is twice tells nothing more.
func TestAnyOrder(t *testing.T) {
	r := rand.New(rand.NewPCG(4, 8))
	ends := map[api.Errno]int{}
	for range 4000 {
		a := lookedFrom(r)
		if reaches(a.Halves) == nil {
			continue
		}
		looks := []api.Sight{someSight(r), someSight(r), someSight(r)}
		sees := func(order []int) (api.Area, api.Errno) {
			area := a
			for _, i := range order {
				next, e := guide.See(area, looks[i])
				if e != api.OK {
					return area, e
				}
				if !isWithin(bounds(next), bounds(area)) {
					t.Fatal("widens", area, looks[i])
				}
				area = next
			}
			return area, api.OK
		}
		want, e := sees([]int{0, 1, 2})
		for _, order := range [][]int{{0, 2, 1}, {1, 0, 2}, {1, 2, 0}, {2, 0, 1}, {2, 1, 0}, {0, 0, 1, 2}, {0, 1, 1, 2, 2}, {2, 0, 2, 1, 0}} {
			got, f := sees(order)
			if f != e || e == api.OK && bounds(got) != bounds(want) {
				t.Fatal(a, looks, order, got, f, want, e)
			}
		}
		ends[e]++
	}
	if ends[api.OK] < 300 || ends[api.ErrLost] < 300 {
		t.Error(ends)
	}
}

// P4.9: a trek is its parts, and one that is known better leads to no wider area.
func TestTrekTruths(t *testing.T) {
	r := rand.New(rand.NewPCG(4, 3))
	spans := func(least, most int) api.Span {
		a, b := number(r, least, most), number(r, least, most)
		return span(min(a, b), max(a, b))
	}
	in := func(s api.Span) api.Span { return spans(s.Lo, s.Hi) }
	for range 5000 {
		a := someArea(r)
		if reaches(a.Halves) == nil {
			continue
		}
		x := trek(spans(0, 20), spans(-50, 50), spans(-50, 50))
		all := gone(t, a, x)

		part, rest := x, x
		part.Days = span(r.IntN(x.Days.Lo+1), 0)
		rest.Days.Lo -= part.Days.Lo
		part.Days.Hi = number(r, part.Days.Lo, x.Days.Hi-rest.Days.Lo)
		rest.Days.Hi -= part.Days.Hi
		if got := gone(t, a, part, rest); !equalAreas(got, all) {
			t.Fatal(a, x, part, rest, got, all)
		}

		better := gone(t, a, trek(in(x.Days), in(x.East), in(x.North)))
		for i, h := range better.Halves {
			if h.C > all.Halves[i].C {
				t.Fatal(a, x, better, all)
			}
		}
		if !isWithin(bounds(better), bounds(all)) {
			t.Fatal(a, x, better, all)
		}
	}
}
