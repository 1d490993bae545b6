package market_test

import (
	"math"
	"math/rand/v2"
	"slices"
	"testing"
	"time"

	"azalai/api"
	"azalai/market"
)

// The signatures of the chapter.
var (
	_ func([]api.Offer, []api.Fair) api.Errno                                                                      = market.Check
	_ func([]api.Offer, []api.Fair, []int, []api.Barter) (held []api.Span, losses []api.Loss, at int, e api.Errno) = market.Run
	_ func(offers []api.Offer, trip []api.Fair, good, units, want int) (chain []int, got int, e api.Errno)         = market.Best
	_ func(offers []api.Offer, trip []api.Fair, stocks []int, want int, prices [][]int) (int, api.Errno)           = market.Bound
	_ func(offers []api.Offer, place, day int) ([]int, api.Errno)                                                  = market.Round
)

// call is all that the functions are called with.
type call struct {
	offers            []api.Offer
	trip              []api.Fair
	stocks            []int
	l                 []api.Barter
	good, units, want int
	prices            [][]int
	place, day        int
}

// outcome is the error of a call, and whether all its other results are zero values, but for the index that stands beside the error of a barter.
type outcome struct {
	e    api.Errno
	zero bool
}

// names are all functions.
var names = []string{"Check", "Run", "Best", "Bound", "Round"}

// outcomes calls each function.
func outcomes(c call) map[string]outcome {
	held, losses, at, e := market.Run(c.offers, c.trip, c.stocks, c.l)
	chain, got, f := market.Best(c.offers, c.trip, c.good, c.units, c.want)
	bound, g := market.Bound(c.offers, c.trip, c.stocks, c.want, c.prices)
	round, h := market.Round(c.offers, c.place, c.day)
	done := e == api.ErrBarter || e == api.ErrShort || e == api.ErrFull
	return map[string]outcome{
		"Check": {market.Check(c.offers, c.trip), true},
		"Run":   {e, len(held) == 0 && len(losses) == 0 && (at == 0 || done)},
		"Best":  {f, len(chain) == 0 && got == 0},
		"Bound": {g, bound == 0},
		"Round": {h, len(round) == 0},
	}
}

// right is a call in which nothing is wrong.
func right() call {
	offers := append(chapterOffers()[:3], from(3, 0, 9, offer(3, 2, 4, exactly(3))), from(3, 0, 9, offer(4, 2, 3, exactly(2))))
	return call{
		offers: offers, trip: chapterTrip(), stocks: list(100, 0, 7, 5, 9),
		l:    []api.Barter{barter(0, 0, 3), barter(0, 0, 7), barter(1, 1, 10)},
		good: 0, units: 105, want: 2,
		prices: [][]int{{40, 100, 25, 0, 0}, {40, 8, 2, 0, 0}}, place: 3, day: 5,
	}
}

// R1, R2: of several errors the first one, with zero values.
func TestOrderOfErrors(t *testing.T) {
	offers, trip, arg, many, prices, none := api.ErrOffers, api.ErrTrip, api.ErrArg, api.ErrMany, api.ErrPrices, api.ErrNone
	good := right()
	c := call{
		offers: []api.Offer{offer(0, 1, 0, exactly(1))}, trip: []api.Fair{fair(-1, 1)}, stocks: list(-1, 0, 0, 0, 0),
		l: slices.Repeat([]api.Barter{barter(-1, 0, 1)}, 61), good: -1, units: -1, want: -1, place: -1, day: -1,
	}
	// One after the other is put right.
	for i, x := range []struct {
		change func()
		want   []api.Errno // of all, in their order
	}{
		{func() {}, []api.Errno{offers, offers, offers, offers, offers}},
		{func() { c.trip = good.trip }, []api.Errno{offers, offers, offers, offers, offers}},
		{func() { c.offers, c.trip = good.offers[:3], []api.Fair{fair(-1, 1)} }, []api.Errno{trip, trip, trip, trip, arg}},
		{func() { c.trip, c.place = good.trip, 3 }, []api.Errno{0, arg, arg, arg, arg}},
		{func() { c.stocks, c.good, c.place, c.day = stocks(0, 30), 0, -1, 5 }, []api.Errno{0, many, arg, arg, arg}},
		{func() { c.l, c.units, c.place = c.l[:60], 105, 3 }, []api.Errno{0, api.ErrBarter, arg, arg, none}},
		{func() { c.l, c.want, c.units = []api.Barter{barter(0, 0, 3), barter(0, 0, 1), barter(9, 9, 0)}, 3, -1 }, []api.Errno{0, api.ErrShort, arg, prices, none}},
		{func() { c.l, c.units, c.offers = c.l[:1], 0, good.offers }, []api.Errno{0, 0, none, prices, 0}},
		{func() { c.want, c.prices, c.stocks = 2, good.prices, stocks(0, -1) }, []api.Errno{0, arg, 0, arg, 0}},
		{func() { c.stocks, c.trip = good.stocks, nil }, []api.Errno{trip, trip, trip, trip, 0}},
		{func() { c.trip = good.trip; c.offers = good.offers[:3] }, []api.Errno{0, 0, 0, 0, none}},
	} {
		x.change()
		got := outcomes(c)
		for j, name := range names {
			if got[name].e != x.want[j] || x.want[j] != api.OK && !got[name].zero {
				t.Error(i, name, got[name], "want", x.want[j])
			}
		}
	}
	// A barter is looked at after all those before it, and what is wrong with it before what is short, and that before what is too much.
	o := []api.Offer{offer(0, 50, 1, exactly(50))}
	one := []api.Fair{fair(1, 1)}
	wantNotRun(t, o, one, stocks(0, 50), []api.Barter{barter(0, 0, 1), barter(0, 0, 1), barter(0, 1, 1)}, 1, api.ErrShort)
	wantNotRun(t, o, one, stocks(0, 50), []api.Barter{barter(0, 0, 1), barter(0, 1, 1), barter(0, 0, 1)}, 1, api.ErrBarter)
	wantNotRun(t, o, one, stocks(0, 50), []api.Barter{barter(0, 0, 1000000000000000)}, 0, api.ErrShort)
	wantNotRun(t, o, one, stocks(0, 50), []api.Barter{barter(0, 0, 1000000000000001)}, 0, api.ErrBarter)
}

// edge returns a number that may be at an edge of a range, or far beyond it.
func edge(r *rand.Rand, least, most int) int {
	switch {
	case r.IntN(500) == 0:
		return []int{math.MinInt, -1 << 32, least - 1, most + 1, 1 << 32, 1 << 62, math.MaxInt}[r.IntN(7)]
	case r.IntN(10) == 0:
		return []int{least, most}[r.IntN(2)]
	}
	return least + r.IntN(most-least+1)
}

func edges(r *rand.Rand, least, most int) api.Span {
	a, b := edge(r, least, most), edge(r, least, most)
	if r.IntN(500) > 0 {
		a, b = min(a, b), max(a, b)
	}
	return span(a, b)
}

// anyCall returns a call that is mostly valid, with numbers from all of their ranges.
func anyCall(r *rand.Rand) call {
	c := call{good: edge(r, 0, 4), units: edge(r, 0, 1000000), want: edge(r, 0, 4), place: edge(r, 0, 1), day: edge(r, 0, 100000)}
	for range r.IntN(10) + r.IntN(20)/19 {
		days := edges(r, 0, 100000)
		o := from(edge(r, 0, 1), days.Lo, days.Hi, offer(edge(r, 0, 4), edge(r, 1, 50), 0, edges(r, 1, 50)))
		if o.Get = (o.Give + 1 + r.IntN(4)) % 5; r.IntN(500) == 0 {
			o.Get = edge(r, -1, 5)
		}
		c.offers = append(c.offers, o)
	}
	day := 0
	for range 1 + r.IntN(5) + r.IntN(30)/29 {
		f := fair(edge(r, 0, 1), day)
		for good := range f.Keeps {
			f.Keeps[good] = edges(r, 0, 1000)
		}
		if r.IntN(200) == 0 {
			f.Keeps = f.Keeps[:r.IntN(5)]
		}
		day = edge(r, max(0, min(day, 100000)), 100000)
		c.trip = append(c.trip, f)
		c.prices = append(c.prices, list(edge(r, 0, 1000000), edge(r, 0, 1000000), edge(r, 0, 1000000), 0, edge(r, 0, 1000)))
	}
	c.stocks = list(edge(r, 0, 1000000), edge(r, 0, 1000000), edge(r, 0, 1000000), edge(r, 0, 1000000), edge(r, 0, 1000000))
	anyBarters(r, &c)
	switch r.IntN(30) {
	case 0:
		c.stocks = c.stocks[:r.IntN(5)]
	case 1:
		c.prices = c.prices[1:]
	case 2:
		c.prices[0] = c.prices[0][:r.IntN(5)]
	case 3:
		slices.Reverse(c.trip)
	case 4, 5, 6, 7, 8:
		// Prices by which nothing is worth more later.
		c.prices = slices.Repeat([][]int{make([]int, 5)}, len(c.trip))
		if 0 <= c.want && c.want < 5 {
			for i := range c.prices {
				c.prices[i] = stocks(c.want, 1+r.IntN(2))
			}
		}
	}
	return c
}

// anyBarters adds barters to a call, at its fairs in their order, some of them for very many times.
func anyBarters(r *rand.Rand, c *call) {
	for i, f := range c.trip {
		for range r.IntN(6) + r.IntN(30)/29*30 {
			for n, o := range c.offers {
				if !isOpen(o, f) || r.IntN(3) == 0 {
					continue
				}
				times := edge(r, 1, []int{10, 1000, 1000000, 1000000000000000}[r.IntN(16)/5])
				c.l = append(c.l, barter(edge(r, i, i), edge(r, n, n), times))
			}
		}
	}
	switch r.IntN(20) {
	case 0:
		c.l = append(c.l[:r.IntN(len(c.l)+1)], barter(r.IntN(7)-1, r.IntN(12)-1, r.IntN(3)))
	case 1:
		c.l = slices.Repeat(c.l, 10)
	}
}

// fullCall is a call in which a barter is for more than can be held.
func fullCall(r *rand.Rand) call {
	c := right()
	c.offers = []api.Offer{offer(0, 1, 1, exactly(50)), offer(1, 1, 0, span(50-r.IntN(3), 50))}
	c.trip = []api.Fair{fair(1, 1)}
	c.prices = c.prices[:1]
	c.stocks[0] = 1000000 - r.IntN(3)
	has := c.stocks[0]
	for i := range 7 {
		c.l = append(c.l[:i:i], barter(0, i%2, has))
		has *= c.offers[i%2].For.Lo
	}
	return c
}

// R5, R6, R7: any values lead to an end without a panic, and to zero values beside an error.
func TestAnyValue(t *testing.T) {
	r := rand.New(rand.NewPCG(6, 17))
	seen := map[api.Errno]int{}
	for i := range 20000 {
		c := anyCall(r)
		if i%50 == 0 {
			c = fullCall(r)
		}
		for name, got := range outcomes(c) {
			if got.e != api.OK && !got.zero {
				t.Fatal(name, c, got)
			}
			seen[got.e]++
		}
	}
	for _, e := range []api.Errno{api.OK, api.ErrArg, api.ErrMany, api.ErrNone, api.ErrFull, api.ErrOffers, api.ErrTrip, api.ErrBarter, api.ErrShort, api.ErrPrices} {
		if seen[e] < 100 {
			t.Error(e, seen)
		}
	}
}

// R6: offers that are one and the same, two fairs on one day and at one place, and offers that are open on one day are valid.
func TestOddValues(t *testing.T) {
	o := from(0, 7, 7, offer(4, 50, 0, exactly(50)))
	trip := []api.Fair{fair(0, 7), fair(0, 7), fair(0, 7)}
	wantRun(t, slices.Repeat([]api.Offer{o}, 10), trip, stocks(4, 100), []api.Barter{barter(0, 9, 1), barter(2, 0, 1)}, []api.Span{exactly(100), {}, {}, {}, {}}, nil)
	wantBest(t, slices.Repeat([]api.Offer{o}, 10), trip, 4, 100, 0, list(-1, -1, 0), 100, api.OK)
	nothing := []api.Fair{keeping(fair(0, 0), all(exactly(0))...), fair(0, 100000)}
	wantRun(t, nil, nothing, list(1, 0, 2, 0, 0), nil, make([]api.Span, 5), []api.Loss{loss(0, 0, 1, 1), loss(0, 2, 2, 2)})
	wantBound(t, nil, nothing, list(1, 0, 2, 0, 0), 0, [][]int{{0, 0, 0, 0, 0}, {1, 1000000, 7, 0, 0}}, 0, api.OK)
}

// R4: a nil list is an empty one.
func TestNil(t *testing.T) {
	one := []api.Fair{fair(1, 1)}
	for _, offers := range [][]api.Offer{nil, {}} {
		for _, l := range [][]api.Barter{nil, {}} {
			wantRun(t, offers, one, list(1, 2, 3, 4, 5), l, []api.Span{exactly(1), exactly(2), exactly(3), exactly(4), exactly(5)}, nil)
		}
		wantBest(t, offers, one, 1, 2, 1, list(-1), 2, api.OK)
		wantBound(t, offers, one, stocks(1, 2), 1, [][]int{stocks(1, 1)}, 2, api.OK)
		wantRound(t, offers, 1, 1, nil, api.ErrNone)
	}
	for _, trip := range [][]api.Fair{nil, {}} {
		if e := market.Check(nil, trip); e != api.ErrTrip {
			t.Error(e)
		}
	}
}

// spare returns a list whose memory goes on behind its end.
func spare[T any](l []T, behind T) []T {
	return append(slices.Clone(l), slices.Repeat([]T{behind}, 20)...)[:len(l)]
}

// whole returns a copy of a list and of the memory behind its end that spare made.
func whole[T any](l []T) []T { return slices.Clone(l[:len(l)+20]) }

// spareCall is a right call whose lists all have memory behind their ends.
func spareCall() call {
	c := right()
	c.offers, c.stocks, c.l = spare(c.offers, offer(1, 7, 2, exactly(7))), spare(c.stocks, 77), spare(c.l, barter(7, 7, 7))
	for i := range c.trip {
		c.trip[i].Keeps = spare(c.trip[i].Keeps, exactly(77))
	}
	c.trip = spare(c.trip, fair(7, 7))
	for i, l := range c.prices {
		c.prices[i] = spare(l, 77)
	}
	c.prices = spare(c.prices, list(77))
	return c
}

// equalFairs tells whether fairs are the same.
func equalFairs(a, b []api.Fair) bool {
	return slices.EqualFunc(a, b, func(f, g api.Fair) bool {
		return f.Place == g.Place && f.Day == g.Day && slices.Equal(f.Keeps, g.Keeps)
	})
}

// same tells whether the lists of two calls are the same, with the memory behind their ends.
func same(a, b call) bool {
	for i := range a.trip {
		if !slices.Equal(whole(a.trip[i].Keeps), whole(b.trip[i].Keeps)) || !slices.Equal(whole(a.prices[i]), whole(b.prices[i])) {
			return false
		}
	}
	return slices.Equal(whole(a.offers), whole(b.offers)) && slices.Equal(whole(a.stocks), whole(b.stocks)) && slices.Equal(whole(a.l), whole(b.l)) &&
		equalFairs(whole(a.trip), whole(b.trip)) && slices.EqualFunc(whole(a.prices), whole(b.prices), slices.Equal)
}

// R3: no argument is written to, nor what lies behind its end.
func TestArguments(t *testing.T) {
	c := spareCall()
	for name, got := range outcomes(c) {
		if got.e != api.OK || name != "Check" && got.zero {
			t.Error(name, got)
		}
	}
	if !same(c, spareCall()) {
		t.Error("an argument is written to", c)
	}
	// Nor beside an error that is found in the middle of it.
	c.l[2].Times, c.prices[0][0], c.want = 1000, 0, 2
	for _, name := range []string{"Run", "Bound"} {
		if got := outcomes(c)[name]; got.e == api.OK {
			t.Error(name, got)
		}
	}
	c.l[2].Times, c.prices[0][0] = 10, 40
	if !same(c, spareCall()) {
		t.Error("an argument is written to", c)
	}
}

// spoil overwrites a list with all its memory.
func spoil[T any](l []T, with T) {
	l = l[:cap(l)]
	for i := range l {
		l[i] = with
	}
}

// R3: results share no memory with arguments or with each other, and no call remembers another one.
func TestResults(t *testing.T) {
	c := spareCall()
	for range 3 {
		// 30 to 40 of 1 and 3 of 2 come to the second fair, where 20 of 1 are given for 70 to 80 of 2.
		held := []api.Span{{}, span(7, 20), span(73, 83), exactly(2), exactly(4)}
		losses := []api.Loss{loss(0, 1, 0, 4), loss(0, 2, 4, 4), loss(0, 3, 3, 3), loss(0, 4, 5, 5)}
		wantRun(t, c.offers, c.trip, c.stocks, c.l, held, losses)
		h, l, _, _ := market.Run(c.offers, c.trip, c.stocks, c.l)
		spoil(h, exactly(-7))
		if !slices.Equal(l, losses) {
			t.Error("losses share memory", l)
		}
		spoil(l, loss(-7, -7, -7, -7))
		wantBest(t, c.offers, c.trip, 0, 105, 2, list(0, 1), 91, api.OK)
		chain, _, _ := market.Best(c.offers, c.trip, 0, 105, 2)
		spoil(chain, -7)
		wantRound(t, c.offers, 3, 5, list(3, 4), api.OK)
		round, _ := market.Round(c.offers, 3, 5)
		spoil(round, -7)
		wantBound(t, c.offers, c.trip, c.stocks, 2, c.prices, 2087, api.OK)
		// What is open elsewhere, or later, is not so because it was in the call before.
		wantRound(t, c.offers, 3, 10, nil, api.ErrNone)
		wantBest(t, nil, c.trip, 0, 105, 2, nil, 0, api.ErrNone)
	}
	if !same(c, spareCall()) {
		t.Error("an argument is written to", c)
	}
}

// R7: each call ends, also with as many chains and rounds as there can be.
func TestEnds(t *testing.T) {
	var offers []api.Offer
	for range 5 {
		offers = append(offers, offer(0, 1, 1, exactly(50)), offer(1, 50, 0, exactly(1)))
	}
	var wide []api.Offer
	for i := range 10 {
		wide = append(wide, offer(i%5, 2, (i+1+i/5)%5, exactly(2)))
	}
	start := time.Now()
	trip := slices.Repeat([]api.Fair{fair(1, 1)}, 5)
	for range 10 {
		wantBest(t, offers, trip, 0, 1000000, 1, list(-1, -1, -1, -1, 0), 50000000, api.OK)
		wantBest(t, wide, trip, 0, 1000000, 0, list(-1, -1, -1, -1, -1), 1000000, api.OK)
		wantRound(t, offers, 1, 1, nil, api.ErrNone)
		wantRound(t, wide, 1, 1, nil, api.ErrNone)
	}
	if took := time.Since(start); took > 20*time.Second {
		t.Error(took)
	}
}
