package market_test

import (
	"math"
	"slices"
	"testing"

	"azalai/api"
	"azalai/market"
)

func span(lo, hi int) api.Span { return api.Span{Lo: lo, Hi: hi} }

func exactly(n int) api.Span { return span(n, n) }

// list are numbers.
func list(l ...int) []int { return l }

// offer returns an offer at the place 1 that is always open.
func offer(give, units, get int, for_ api.Span) api.Offer {
	return api.Offer{Place: 1, Give: give, Get: get, Units: units, For: for_, To: 100000}
}

// from returns an offer that is open at a place on some days.
func from(place, first, last int, o api.Offer) api.Offer {
	o.Place, o.From, o.To = place, first, last
	return o
}

func all(keeps api.Span) []api.Span { return slices.Repeat([]api.Span{keeps}, 5) }

// fair returns a fair; nothing is lost on the road from it.
func fair(place, day int) api.Fair {
	return api.Fair{Place: place, Day: day, Keeps: all(exactly(1000))}
}

// keeping returns a fair with other numbers of what is kept of each good.
func keeping(f api.Fair, keeps ...api.Span) api.Fair {
	f.Keeps = keeps
	return f
}

func barter(fair, offer, times int) api.Barter {
	return api.Barter{Fair: fair, Offer: offer, Times: times}
}

func loss(road, good, lo, hi int) api.Loss {
	return api.Loss{Road: road, Good: good, Units: span(lo, hi)}
}

// stocks returns so many units of a good, and nothing else.
func stocks(good, units int) []int {
	l := make([]int, 5)
	l[good] = units
	return l
}

func with[T any](v T, change func(*T)) T {
	change(&v)
	return v
}

// due returns no error for what is valid, and a certain one for all else.
func due(valid bool, bad api.Errno) api.Errno {
	if valid {
		return api.OK
	}
	return bad
}

// around are numbers at the edges of a range, and far beyond them, with whether they are in it.
func around(least, most int) map[int]bool {
	return map[int]bool{
		least - 1: false, most + 1: false, least + 1<<40: false, least - 1<<40: false, 1 << 62: false, math.MinInt: false, math.MaxInt: false,
		least: true, most: true,
	}
}

// spansAround are spans at the edges of a range, with whether they are in it, and their ends in order.
func spansAround(least, most int) map[api.Span]bool {
	l := map[api.Span]bool{span(most, least): false, span(least+1, least): false, span(most+1, least): false, span(least, least-1): false}
	for n, valid := range around(least, most) {
		l[exactly(n)], l[span(min(n, least), max(n, most))] = valid, valid
	}
	return l
}

// The offers and the trip of the chapter's examples.

func chapterOffers() []api.Offer {
	return []api.Offer{
		from(1, 0, 100, offer(0, 10, 1, span(3, 4))),
		from(2, 0, 50, offer(1, 2, 2, span(7, 8))),
		from(2, 51, 100, offer(1, 2, 2, exactly(5))),
		from(2, 0, 100, offer(2, 1, 1, exactly(1))),
	}
}

func chapterTrip() []api.Fair {
	keeps := []api.Span{exactly(1000), span(900, 1000), exactly(500), exactly(500), exactly(500)}
	return []api.Fair{keeping(fair(1, 40), keeps...), keeping(fair(2, 45), keeps...)}
}

func chapterPrices() [][]int { return [][]int{{8, 20, 5, 0, 0}, {8, 20, 5, 0, 0}} }

func wantRun(t *testing.T, offers []api.Offer, trip []api.Fair, stocks []int, l []api.Barter, held []api.Span, losses []api.Loss) {
	t.Helper()
	h, m, at, e := market.Run(offers, trip, stocks, l)
	if !slices.Equal(h, held) || !slices.Equal(m, losses) || at != 0 || e != api.OK {
		t.Error("Run", l, h, m, at, e, "want", held, losses)
	}
}

func wantNotRun(t *testing.T, offers []api.Offer, trip []api.Fair, stocks []int, l []api.Barter, at int, e api.Errno) {
	t.Helper()
	if h, m, i, f := market.Run(offers, trip, stocks, l); len(h) != 0 || len(m) != 0 || i != at || f != e {
		t.Error("Run", l, h, m, i, f, "want", at, e)
	}
}

func wantBest(t *testing.T, offers []api.Offer, trip []api.Fair, good, units, want int, chain []int, most int, e api.Errno) {
	t.Helper()
	if c, n, f := market.Best(offers, trip, good, units, want); !slices.Equal(c, chain) || n != most || f != e {
		t.Error("Best", good, units, want, c, n, f, "want", chain, most, e)
	}
}

func wantBound(t *testing.T, offers []api.Offer, trip []api.Fair, stocks []int, want int, prices [][]int, most int, e api.Errno) {
	t.Helper()
	if n, f := market.Bound(offers, trip, stocks, want, prices); n != most || f != e {
		t.Error("Bound", stocks, want, prices, n, f, "want", most, e)
	}
}

func wantRound(t *testing.T, offers []api.Offer, place, day int, round []int, e api.Errno) {
	t.Helper()
	if l, f := market.Round(offers, place, day); !slices.Equal(l, round) || f != e {
		t.Error("Round", offers, place, day, l, f, "want", round, e)
	}
}

func TestExamples(t *testing.T) {
	offers, trip := chapterOffers(), chapterTrip()
	l := []api.Barter{barter(0, 0, 10), barter(1, 1, 10)}
	wantRun(t, offers, trip, stocks(0, 100), l, []api.Span{exactly(0), span(7, 20), span(70, 80), exactly(0), exactly(0)}, []api.Loss{loss(0, 1, 0, 4)})
	l[1].Times = 14
	wantNotRun(t, offers, trip, stocks(0, 100), l, 1, api.ErrShort)
	wantBest(t, offers, trip, 0, 105, 2, list(0, 1), 91, api.OK)
	wantBest(t, offers, trip, 0, 105, 1, list(0, -1), 27, api.OK)
	wantBound(t, offers[:3], trip, stocks(0, 100), 2, chapterPrices(), 160, api.OK)
	wantRound(t, offers, 2, 45, list(1, 3), api.OK)
	wantRound(t, offers, 1, 45, nil, api.ErrNone)
}

// errorsOf calls each function with arguments that are right but for the offers and the trip.
func errorsOf(offers []api.Offer, trip []api.Fair) map[string]api.Errno {
	prices := slices.Repeat([][]int{{0, 0, 0, 0, 1}}, len(trip))
	_, _, _, run := market.Run(offers, trip, stocks(0, 0), nil)
	_, _, best := market.Best(offers, trip, 0, 0, 0)
	_, bound := market.Bound(offers, trip, stocks(0, 0), 4, prices)
	_, round := market.Round(offers, 9999, 0)
	return map[string]api.Errno{"Check": market.Check(offers, trip), "Run": run, "Best": best, "Bound": bound, "Round": round}
}

// wantErrors checks the error of all functions; Round has one of its own.
func wantErrors(t *testing.T, offers []api.Offer, trip []api.Fair, want, round api.Errno) {
	t.Helper()
	for name, e := range errorsOf(offers, trip) {
		if name == "Round" && e != round || name != "Round" && e != want {
			t.Error(name, offers, trip, e, "want", want, round)
		}
	}
}

// wantOffer checks whether an offer is valid, alone and behind another one.
func wantOffer(t *testing.T, o api.Offer, valid bool) {
	t.Helper()
	want, round := api.OK, api.ErrNone
	if !valid {
		want, round = api.ErrOffers, api.ErrOffers
	}
	for _, l := range [][]api.Offer{{o}, {offer(0, 1, 1, exactly(1)), o}} {
		wantErrors(t, l, []api.Fair{fair(2, 7)}, want, round)
	}
}

// P6.1: the ranges of the numbers of an offer.
func TestCheckOffer(t *testing.T) {
	o := from(3, 20, 30, offer(3, 5, 2, span(6, 7)))
	wantOffer(t, o, true)
	for n, valid := range around(0, 9999) {
		wantOffer(t, with(o, func(o *api.Offer) { o.Place = n }), valid)
	}
	for n, valid := range around(0, 4) {
		wantOffer(t, with(o, func(o *api.Offer) { o.Give = n }), valid)
		wantOffer(t, with(o, func(o *api.Offer) { o.Get = n }), valid)
	}
	for good := range 5 {
		wantOffer(t, with(o, func(o *api.Offer) { o.Give, o.Get = good, good }), false)
		wantOffer(t, with(o, func(o *api.Offer) { o.Give, o.Get = good, (good+1)%5 }), true)
	}
	for n, valid := range around(1, 50) {
		wantOffer(t, with(o, func(o *api.Offer) { o.Units = n }), valid)
	}
	for s, valid := range spansAround(1, 50) {
		wantOffer(t, with(o, func(o *api.Offer) { o.For = s }), valid)
	}
	for s, valid := range spansAround(0, 100000) {
		wantOffer(t, with(o, func(o *api.Offer) { o.From, o.To = s.Lo, s.Hi }), valid)
	}
	trip := []api.Fair{fair(2, 7)}
	wantErrors(t, nil, trip, api.OK, api.ErrNone)
	wantErrors(t, []api.Offer{}, trip, api.OK, api.ErrNone)
	wantErrors(t, slices.Repeat([]api.Offer{o}, 10), trip, api.OK, api.ErrNone)
	wantErrors(t, slices.Repeat([]api.Offer{o}, 11), trip, api.ErrOffers, api.ErrOffers)
}

// wantFair checks whether a fair is valid, alone and behind another one on the day 0.
func wantFair(t *testing.T, f api.Fair, valid bool) {
	t.Helper()
	for _, l := range [][]api.Fair{{f}, {fair(1, 0), f}} {
		wantErrors(t, chapterOffers(), l, due(valid, api.ErrTrip), api.ErrNone)
	}
}

// P6.1: the ranges of the numbers of a trip.
func TestCheckTrip(t *testing.T) {
	for n, valid := range around(0, 9999) {
		wantFair(t, fair(n, 5), valid)
	}
	for n, valid := range around(0, 100000) {
		wantFair(t, fair(5, n), valid)
	}
	for good := range 5 {
		for s, valid := range spansAround(0, 1000) {
			keeps := all(span(300, 700))
			keeps[good] = s
			wantFair(t, keeping(fair(5, 5), keeps...), valid)
		}
	}
	for n := range 12 {
		wantFair(t, keeping(fair(5, 5), slices.Repeat([]api.Span{span(1, 2)}, n)...), n == 5)
		wantErrors(t, nil, slices.Repeat([]api.Fair{fair(7, 7)}, n), due(1 <= n && n <= 5, api.ErrTrip), api.ErrNone)
	}
	wantErrors(t, nil, nil, api.ErrTrip, api.ErrNone)
	for i, x := range []struct {
		days  []int
		valid bool
	}{
		{list(5, 5, 5), true}, {list(0, 5, 100000), true}, {list(6, 5), false}, {list(6, 6, 5), false}, {list(6, 7, 6), false}, {list(6, 5, 6), false}, {list(1, 2, 3, 4, 3), false},
	} {
		var trip []api.Fair
		for _, day := range x.days {
			trip = append(trip, fair(1, day))
		}
		if e := market.Check(nil, trip); e != due(x.valid, api.ErrTrip) {
			t.Error(i, x.days, e)
		}
	}
}

// An offer is open at its place alone, from its first day to its last one, at any fair of a trip.
func TestOpen(t *testing.T) {
	for _, x := range []struct {
		place, day int
		open       bool
	}{{3, 19, false}, {3, 20, true}, {3, 25, true}, {3, 30, true}, {3, 31, false}, {2, 25, false}, {4, 25, false}, {0, 0, false}} {
		for _, before := range []int{0, 1, 4} {
			offers := []api.Offer{from(3, 20, 30, offer(0, 1, 1, exactly(2))), from(3, 20, 30, offer(1, 1, 0, exactly(2)))}
			trip := append(slices.Repeat([]api.Fair{fair(3, 0)}, before), fair(x.place, x.day))
			l := []api.Barter{barter(before, 0, 1)}
			prices := slices.Repeat([][]int{{1, 1, 1, 1, 1}}, before+1)
			stay := slices.Repeat(list(-1), before)
			if !x.open {
				wantNotRun(t, offers, trip, stocks(0, 1), l, 0, api.ErrBarter)
				wantBest(t, offers, trip, 0, 1, 1, nil, 0, api.ErrNone)
				wantBound(t, offers, trip, stocks(0, 1), 1, prices, 1, api.OK)
				wantRound(t, offers, x.place, x.day, nil, api.ErrNone)
				continue
			}
			wantRun(t, offers, trip, stocks(0, 1), l, []api.Span{{}, exactly(2), {}, {}, {}}, nil)
			wantBest(t, offers, trip, 0, 1, 1, append(stay, 0), 2, api.OK)
			wantBound(t, offers, trip, stocks(0, 1), 1, prices, 0, api.ErrPrices)
			wantRound(t, offers, x.place, x.day, list(0, 1), api.OK)
		}
	}
}
