package market_test

import (
	"math/rand/v2"
	"slices"
	"testing"

	"azalai/api"
	"azalai/market"
)

// P6.3: the ranges of the numbers.
func TestBestArguments(t *testing.T) {
	one := []api.Fair{fair(1, 1)}
	for n, valid := range around(0, 4) {
		for m, both := range around(0, 4) {
			want := due(valid && both, api.ErrArg)
			if want == api.OK && n != m {
				want = api.ErrNone
			}
			if want == api.OK {
				wantBest(t, nil, one, n, 9, m, list(-1), 9, want)
			} else {
				wantBest(t, nil, one, n, 9, m, nil, 0, want)
			}
		}
	}
	for n, valid := range around(0, 1000000) {
		if valid {
			wantBest(t, nil, one, 2, n, 2, list(-1), n, api.OK)
			continue
		}
		wantBest(t, nil, one, 2, n, 2, nil, 0, api.ErrArg)
		wantBest(t, nil, one, 2, n, 3, nil, 0, api.ErrArg)
	}
}

// P6.3: which chain gains most, and the first one of several.
func TestBest(t *testing.T) {
	offers := []api.Offer{
		offer(0, 10, 1, span(3, 50)),
		offer(0, 10, 2, span(4, 4)),
		offer(1, 3, 2, span(5, 6)),
		offer(1, 3, 2, span(5, 7)),
		offer(2, 2, 0, span(4, 9)),
		from(2, 0, 9, offer(2, 1, 3, span(1, 1))),
		offer(3, 1, 4, span(1, 1)),
	}
	fairs := func(n int) []api.Fair { return slices.Repeat([]api.Fair{fair(1, 1)}, n) }
	lossy := fairs(3)
	lossy[1] = keeping(fair(1, 1), exactly(1000), span(400, 1000), span(500, 1000), exactly(1000), exactly(1000))
	lossy[2] = keeping(fair(1, 1), all(exactly(0))...)
	for _, x := range []struct {
		trip              []api.Fair
		good, units, want int
		chain             []int
		most              int
		e                 api.Errno
	}{
		{fairs(1), 0, 100, 0, list(-1), 100, api.OK},
		{fairs(1), 0, 100, 1, list(0), 30, api.OK},
		{fairs(1), 0, 100, 2, list(1), 40, api.OK},
		{fairs(1), 0, 100, 3, nil, 0, api.ErrNone},
		{fairs(1), 1, 100, 0, nil, 0, api.ErrNone},
		// What is too little for an offer is lost with it; -1 comes before an offer.
		{fairs(1), 0, 109, 1, list(0), 30, api.OK},
		{fairs(1), 0, 9, 1, list(0), 0, api.OK},
		{fairs(1), 0, 0, 2, list(1), 0, api.OK},
		{fairs(2), 0, 100, 1, list(-1, 0), 30, api.OK},
		{fairs(3), 0, 0, 0, list(-1, -1, -1), 0, api.OK},
		{fairs(3), 1, 2, 0, list(-1, 2, 4), 0, api.OK},
		// By the offer 2, and not by 3, which comes later and gives as much for sure.
		{fairs(2), 0, 100, 2, list(0, 2), 50, api.OK},
		{fairs(3), 0, 100, 2, list(-1, 0, 2), 50, api.OK},
		{fairs(3), 0, 100, 0, list(-1, -1, -1), 100, api.OK},
		{fairs(4), 0, 90, 0, list(-1, -1, -1, -1), 90, api.OK},
		{fairs(2), 1, 30, 0, list(2, 4), 100, api.OK},
		// An offer elsewhere is not taken.
		{fairs(5), 0, 100, 3, nil, 0, api.ErrNone},
		{append(fairs(1), fair(2, 9), fair(1, 9)), 0, 100, 4, list(1, 5, 6), 40, api.OK},
		{append(fairs(2), fair(2, 9), fair(1, 9)), 0, 100, 4, list(0, 2, 5, 6), 50, api.OK},
		{append(fairs(1), fair(2, 10), fair(1, 10)), 0, 100, 4, nil, 0, api.ErrNone},
		// On the second road least is left of 1, and none is lost after the last fair.
		{lossy, 0, 100, 2, list(-1, -1, 1), 40, api.OK},
		{lossy, 0, 100, 1, list(-1, -1, 0), 30, api.OK},
		{lossy, 1, 35, 3, nil, 0, api.ErrNone},
		{lossy, 1, 35, 1, list(2, 4, 0), 30, api.OK},
		{lossy, 1, 36, 2, list(2, 4, 1), 48, api.OK},
	} {
		wantBest(t, offers, x.trip, x.good, x.units, x.want, x.chain, x.most, x.e)
	}
	// With no way from 2 to 0, the offer is taken before or after the road on which half of 2 is left.
	wantBest(t, offers[:4], lossy, 1, 35, 1, list(-1, -1, -1), 14, api.OK)
	wantBest(t, offers[:4], lossy, 1, 36, 2, list(-1, 2, -1), 30, api.OK)
	wantBest(t, offers[:4], lossy[1:], 1, 36, 2, list(2, -1), 30, api.OK)
	wantBest(t, offers[:4], lossy[1:], 1, 8, 2, list(-1, 2), 5, api.OK)
}

// P6.3: numbers grow as far as they can without an overflow.
func TestBestMost(t *testing.T) {
	offers := []api.Offer{offer(0, 1, 1, exactly(50)), offer(1, 1, 0, exactly(50))}
	wantBest(t, offers, slices.Repeat([]api.Fair{fair(1, 1)}, 5), 0, 1000000, 1, list(0, 1, 0, 1, 0), 312500000000000, api.OK)
}

// end goes a list of numbers from fair to fair, word by word of the chapter: whether it is a chain, and what is in hand at last.
func end(offers []api.Offer, trip []api.Fair, chain []int, good, units int) (isChain bool, last, n int) {
	for i, f := range trip {
		if chain[i] >= 0 {
			o := offers[chain[i]]
			if !isOpen(o, f) || o.Give != good {
				return false, 0, 0
			}
			got := 0
			for ; units >= o.Units; units -= o.Units {
				got += o.For.Lo
			}
			good, units = o.Get, got
		}
		if i+1 < len(trip) {
			units = units * f.Keeps[good].Lo / 1000
		}
	}
	return true, good, units
}

// P6.3, P6.7: of all lists of numbers no chain gains more than the one that is returned, and none before it as much.
func TestBestOfAll(t *testing.T) {
	r := rand.New(rand.NewPCG(6, 3))
	seen := map[bool]int{}
	long, ties := 0, 0
	for range 6000 {
		offers := someOffers(r, r.IntN(6), 2+r.IntN(2), 1+r.IntN(6))
		if len(offers) > 3 {
			offers[3] = offers[r.IntN(3)]
		}
		trip := someTrip(r, 1+r.IntN(2)+r.IntN(3))
		good, units, want := r.IntN(3), r.IntN(60), r.IntN(3)
		most, equal := -1, 0
		var chain []int
		for _, l := range lists(len(trip), -1, len(offers)-1) {
			isChain, last, n := end(offers, trip, l, good, units)
			switch {
			case !isChain || last != want || n < most:
			case n == most:
				equal++
			default:
				chain, most, equal = l, n, 1
			}
		}
		seen[most < 0]++
		if most < 0 {
			wantBest(t, offers, trip, good, units, want, nil, 0, api.ErrNone)
			continue
		}
		wantBest(t, offers, trip, good, units, want, chain, most, api.OK)
		if equal > 1 {
			ties++
		}
		if len(slices.DeleteFunc(chain, func(n int) bool { return n < 0 })) > 1 {
			long++
		}
	}
	if seen[false] < 500 || seen[true] < 500 || long < 100 || ties < 200 {
		t.Error(seen, long, ties)
	}
}

// barters are those of a chain; an offer that is taken as often as never is none.
func barters(offers []api.Offer, trip []api.Fair, chain []int, good, units int) []api.Barter {
	var l []api.Barter
	for i, n := range chain {
		_, last, has := end(offers, trip[:i+1], append(chain[:i:i], -1), good, units)
		if n >= 0 && offers[n].Give == last && has >= offers[n].Units {
			l = append(l, barter(i, n, has/offers[n].Units))
		}
	}
	return l
}

// P6.7: the best chain can be gone: at its end there is as much of the good for sure.
func TestBestIsGone(t *testing.T) {
	r := rand.New(rand.NewPCG(6, 7))
	gone, gained := 0, 0
	for range 5000 {
		offers := someOffers(r, 5+r.IntN(6), 2+r.IntN(3), 1+r.IntN(50))
		trip := someTrip(r, 1+r.IntN(5))
		good, units, want := r.IntN(3), r.IntN(1000001), r.IntN(3)
		chain, got, e := market.Best(offers, trip, good, units, want)
		if e != api.OK {
			continue
		}
		l := barters(offers, trip, chain, good, units)
		held, _, _, e := market.Run(offers, trip, stocks(good, units), l)
		if e != api.OK || held[want].Lo < got {
			t.Fatal(offers, trip, good, units, want, chain, got, held, e)
		}
		if len(l) > 1 {
			gone++
		}
		if good == want && got > units {
			gained++
		}
	}
	if gone < 500 || gained < 20 {
		t.Error(gone, gained)
	}
}

// better returns offers and a trip that are as good or better: each offer for no less, and no more units, and no less is kept.
func better(r *rand.Rand, offers []api.Offer, trip []api.Fair) ([]api.Offer, []api.Fair) {
	offers, trip = slices.Clone(offers), slices.Clone(trip)
	for i, o := range offers {
		switch r.IntN(3) {
		case 0:
			offers[i].For = span(min(50, o.For.Lo+r.IntN(3)), min(50, o.For.Hi+2))
		case 1:
			offers[i].Units = 1 + r.IntN(o.Units)
		}
	}
	for i, f := range trip {
		trip[i].Keeps = slices.Clone(f.Keeps)
		for good, s := range f.Keeps {
			if r.IntN(2) == 0 {
				trip[i].Keeps[good].Lo += r.IntN(s.Hi - s.Lo + 1)
			}
		}
	}
	return offers, trip
}

// P6.8: with more to begin with, better rates and less that is lost the best chain gains no less.
func TestBestGainsNoLess(t *testing.T) {
	r := rand.New(rand.NewPCG(6, 8))
	compared, more := 0, 0
	for range 5000 {
		offers := someOffers(r, 5+r.IntN(6), 2+r.IntN(3), 1+r.IntN(9))
		trip := someTrip(r, 1+r.IntN(5))
		good, units, want := r.IntN(3), r.IntN(1000), r.IntN(3)
		_, got, e := market.Best(offers, trip, good, units, want)
		offers2, trip2 := better(r, offers, trip)
		_, got2, e2 := market.Best(offers2, trip2, good, units+r.IntN(3), want)
		if e != e2 || got2 < got {
			t.Fatal(offers, trip, good, units, want, got, e, offers2, trip2, got2, e2)
		}
		if e == api.OK {
			compared++
		}
		if got2 > got {
			more++
		}
	}
	if compared < 1000 || more < 500 {
		t.Error(compared, more)
	}
}
